/-
  The law LinkWired returns true for every input.
-/
import Derived.Test.YtpkjdfdjjobjgaaWi0
import Derived.Deep.Cut
namespace Go.Proofs.Ytpkjdfdjjobjgaa
open Go.RowKit
set_option linter.unusedSimpArgs false
set_option maxHeartbeats 4000000 in
theorem wired_walk (cost : Int) (b m : Nat) (tx : Int) (w : World) (hc : 0 ≤ cost) (hc' : cost < 65536) (hb : b < 65536) (hm : m < 65536) (ht : 0 ≤ tx) (ht' : tx < 65536) :
    Calls Try.prog 7 #[.int .u16 cost, .int .u16 (b : Int), .int .u16 (m : Int), .int .u16 tx] w (Gives w (.bool true)) := by
  have e1 : bits BinOp.or IntKind.u16 (b : Int) (m : Int) = ((b ||| m : Nat) : Int) := u16_or_nat b m hb hm
  have hy : b ||| m < 65536 := Nat.or_lt_two_pow (n := 16) hb hm
  have oX : (Hi.mk (b : Int) 0 true).ok := ⟨by dsimp only; omega, by dsimp only; omega, by dsimp only; omega, by dsimp only; omega⟩
  have oY : (Hi.mk ((b ||| m : Nat) : Int) 0 true).ok := ⟨by dsimp only; omega, by dsimp only; omega, by dsimp only; omega, by dsimp only; omega⟩
  have A1 := fun W g r => rx_at 0 cost ⟨b, 0, true⟩ g 1 24 W hc hc' oX r
  have A2 := fun W g r => rx_at 0 cost ⟨((b ||| m : Nat) : Int), 0, true⟩ g 1 24 W hc hc' oY r
  have A3 := fun W g r => rx_at 1 cost ⟨b, 0, true⟩ g 1 24 W hc hc' oX r
  have A4 := fun W g r => rx_at 1 cost ⟨((b ||| m : Nat) : Int), 0, true⟩ g 1 24 W hc hc' oY r
  have A5 := fun W g r => rx_both 0 cost ⟨b, 0, true⟩ ⟨((b ||| m : Nat) : Int), 0, true⟩ g 2 24 W hc hc' oX oY r
  have p1 := wired_one cost b
  have p2 := wired_two cost b m
  have p3 := wless_mono cost b m hc
  have r1 := rxZ_ok 0 cost b hc hc'
  have r2 := rxZ_ok 0 cost (b ||| m) hc hc'
  have r3 := rxZ_ok 1 cost b hc hc'
  have r4 := rxZ_ok 1 cost (b ||| m) hc hc'
  dsimp only [Int.toNat_natCast] at A1 A2 A3 A4 A5
  generalize rxZ 0 cost b = A at *
  generalize rxZ 0 cost (b ||| m) = C at *
  generalize rxZ 1 cost b = D at *
  generalize rxZ 1 cost (b ||| m) = E at *
  have K1 := fun W => cost_any 0 A tx W r1.1 r1.2 ht ht'
  have K2 := fun W => cost_any 1 D tx W r3.1 r3.2 ht ht'
  have K3 := fun W => cost_any 1 E tx W r4.1 r4.2 ht ht'
  have q1 := cost_wired A tx
  have q2 := cost_mono D E tx p3 r3.2
  generalize costZ 0 A tx = U at *
  generalize costZ 1 D tx = V at *
  generalize costZ 1 E tx = Z at *
  generalize b ||| m = y at *
  have HB : Hid (∀ W, W = (w.alloc (.cells #[.int .u16 (b : Int), .int .u16 0, .bool true] 24)).alloc (.cells #[.int .u16 (y : Int), .int .u16 0, .bool true] 24) → Below w.heap.size w W ∧ Row W w.heap.size 24 (hcs ⟨b, 0, true⟩) ∧ Row W (w.heap.size + 1) 24 (hcs ⟨y, 0, true⟩)) := by
    rintro W rfl
    have q := Row.new (w.alloc (.cells (hcs ⟨b, 0, true⟩).toArray 24)) 24 (hcs ⟨y, 0, true⟩)
    rw [World.size_alloc] at q
    exact ⟨two_below _ _ _, (Row.new w 24 (hcs ⟨b, 0, true⟩)).alloc _, q⟩
  have HK : Hid (∀ W W', (Below w.heap.size w W ∧ Row W w.heap.size 24 (hcs ⟨b, 0, true⟩) ∧ Row W (w.heap.size + 1) 24 (hcs ⟨y, 0, true⟩)) → Below W.heap.size W W' → (Below w.heap.size w W' ∧ Row W' w.heap.size 24 (hcs ⟨b, 0, true⟩) ∧ Row W' (w.heap.size + 1) 24 (hcs ⟨y, 0, true⟩))) :=
    fun W W' h k => ⟨h.1.trans (k.mono h.1.size), h.2.1.below k h.2.1.lt, h.2.2.below k h.2.2.lt⟩
  clear oX oY hy hb hm
  go_enter Try.func7, Try.ntmps7
  go_wp2
  apply region_ex (PP := fun W => Below w.heap.size w W ∧ Row W w.heap.size 24 (hcs ⟨b, 0, true⟩) ∧ Row W (w.heap.size + 1) 24 (hcs ⟨y, 0, true⟩))
  case h1 =>
    refine wp_region_held_drew (S := fun W => Below w.heap.size w W ∧ Row W w.heap.size 24 (hcs ⟨b, 0, true⟩) ∧ Row W (w.heap.size + 1) 24 (hcs ⟨y, 0, true⟩)) (by kernel_rfl) (⟨(HB.out _ rfl).1.drew, (HB.out _ rfl).2.1, (HB.out _ rfl).2.2⟩) (fun hHeld => ?_)
    refine take_lit (i := 0) (v := ?_) rfl (by kernel_rfl) (by kernel_rfl) (by kernel_rfl) (fun _ _ _ h => h) (Or.inl ⟨by rfl, ?_⟩) (by assumption) ?_
    rotate_left
    · (intro w hSw; (try dsimp only at hSw); go_simp <;> with_reducible rfl)
    try simp only [Act.put, List.setIfInBounds_toArray, List.set_cons_zero, List.set_cons_succ]
    refine take_lit (i := 1) rfl (by kernel_rfl) (by kernel_rfl) (by kernel_rfl) (fun _ _ _ h => h) (yH ⟨b, 0, true⟩ (fun w h => h.2.1.range) (by rfl) rfl rfl) (by assumption) ?_
    try simp only [Act.put, List.setIfInBounds_toArray, List.set_cons_zero, List.set_cons_succ]
    refine take_lit (i := 4) (v := ?_) rfl (by kernel_rfl) (by kernel_rfl) (by kernel_rfl) (fun _ _ _ h => h) (Or.inl ⟨by rfl, ?_⟩) (by assumption) ?_
    rotate_left
    · (intro w hSw; (try dsimp only at hSw); go_simp <;> with_reducible rfl)
    try simp only [Act.put, List.setIfInBounds_toArray, List.set_cons_zero, List.set_cons_succ]
    refine take_lit (i := 5) rfl (by kernel_rfl) (by kernel_rfl) (by kernel_rfl) (fun _ _ _ h => h) (yH ⟨y, 0, true⟩ (fun w h => h.2.2.range) (by rfl) rfl rfl) (by assumption) ?_
    try simp only [Act.put, List.setIfInBounds_toArray, List.set_cons_zero, List.set_cons_succ]
    refine wpAnyH_ready (rs := [2, 6]) (by kernel_rfl) (by simp) ?_
    refine cons_lit rfl (fun K hK => ?_) ?_
    · skip
      refine sBsH (.tmp 23) ⟨b, 0, true⟩ (by rfl) rfl rfl ?_
      intro gA wA lA lA' rA hA
      try replace rB := rB.below hA rB.lt
      refine hK.out _ _ ?_ (fun hHeld => ?_)
      · exact HK.out _ _ hHeld hA
      clear hK K
      try simp only [Act.put, List.setIfInBounds_toArray, List.set_cons_zero, List.set_cons_succ]
      refine wpAnyH_ready (rs := [3, 6]) (by kernel_rfl) (by simp) ?_
      refine cons_lit rfl (fun K hK => ?_) ?_
      · go_simp
        refine (A1 _ _ rA).mono ?_
        rintro e w1 ⟨rfl, hB1⟩
        try replace rB := rB.below hB1 rB.lt
        refine hK.out _ _ ?_ (fun hHeld => ?_)
        · exact HK.out _ _ hHeld hB1
        clear hK K
        try simp only [Act.put, List.setIfInBounds_toArray, List.set_cons_zero, List.set_cons_succ]
        refine wpAnyH_ready (rs := [6]) (by kernel_rfl) (by simp) ?_
        refine cons_lit rfl (fun K hK => ?_) ?_
        · skip
          refine sBsH (.tmp 27) ⟨y, 0, true⟩ (by rfl) rfl rfl ?_
          intro gB wB lB lB' rB hB
          try replace rA := rA.below hB rA.lt
          refine hK.out _ _ ?_ (fun hHeld => ?_)
          · exact HK.out _ _ hHeld hB
          clear hK K
          try simp only [Act.put, List.setIfInBounds_toArray, List.set_cons_zero, List.set_cons_succ]
          refine wpAnyH_ready (rs := [7]) (by kernel_rfl) (by simp) ?_
          refine cons_lit rfl (fun K hK => ?_) ?_
          · go_simp
            refine (A2 _ _ rB).mono ?_
            rintro e w2 ⟨rfl, hB2⟩
            refine hK.out _ _ ?_ (fun hHeld => ?_)
            · exact HK.out _ _ hHeld hB2
            clear hK K
            try simp only [Act.put, List.setIfInBounds_toArray, List.set_cons_zero, List.set_cons_succ]
            refine take_lit (i := 8) (v := ?_) rfl (by kernel_rfl) (by kernel_rfl) (by kernel_rfl) (fun _ _ _ h => h) (Or.inl ⟨by rfl, ?_⟩) (by assumption) ?_
            rotate_left
            · (intro w hSw; (try dsimp only at hSw); go_simp <;> with_reducible rfl)
            try simp only [Act.put, List.setIfInBounds_toArray, List.set_cons_zero, List.set_cons_succ]
            refine take_lit (i := 9) (v := ?_) rfl (by kernel_rfl) (by kernel_rfl) (by kernel_rfl) (fun _ _ _ h => h) (Or.inl ⟨by rfl, ?_⟩) (by assumption) ?_
            rotate_left
            · (intro w hSw; (try dsimp only at hSw); go_simp <;> with_reducible rfl)
            try simp only [Act.put, List.setIfInBounds_toArray, List.set_cons_zero, List.set_cons_succ]
            refine wpAnyH_done (by kernel_rfl) ?_ _
            exact ⟨gA, gB, rfl, hHeld⟩
          exact AllReadyH.nil
        exact AllReadyH.nil
      refine cons_lit rfl (fun K hK => ?_) ?_
      · skip
        refine sBsH (.tmp 27) ⟨y, 0, true⟩ (by rfl) rfl rfl ?_
        intro gB wB lB lB' rB hB
        try replace rA := rA.below hB rA.lt
        refine hK.out _ _ ?_ (fun hHeld => ?_)
        · exact HK.out _ _ hHeld hB
        clear hK K
        try simp only [Act.put, List.setIfInBounds_toArray, List.set_cons_zero, List.set_cons_succ]
        refine wpAnyH_ready (rs := [3]) (by kernel_rfl) (by simp) ?_
        refine cons_lit rfl (fun K hK => ?_) ?_
        · go_simp
          refine (A1 _ _ rA).mono ?_
          rintro e w1 ⟨rfl, hB1⟩
          try replace rB := rB.below hB1 rB.lt
          refine hK.out _ _ ?_ (fun hHeld => ?_)
          · exact HK.out _ _ hHeld hB1
          clear hK K
          try simp only [Act.put, List.setIfInBounds_toArray, List.set_cons_zero, List.set_cons_succ]
          refine wpAnyH_ready (rs := [7]) (by kernel_rfl) (by simp) ?_
          refine cons_lit rfl (fun K hK => ?_) ?_
          · go_simp
            refine (A2 _ _ rB).mono ?_
            rintro e w2 ⟨rfl, hB2⟩
            refine hK.out _ _ ?_ (fun hHeld => ?_)
            · exact HK.out _ _ hHeld hB2
            clear hK K
            try simp only [Act.put, List.setIfInBounds_toArray, List.set_cons_zero, List.set_cons_succ]
            refine take_lit (i := 8) (v := ?_) rfl (by kernel_rfl) (by kernel_rfl) (by kernel_rfl) (fun _ _ _ h => h) (Or.inl ⟨by rfl, ?_⟩) (by assumption) ?_
            rotate_left
            · (intro w hSw; (try dsimp only at hSw); go_simp <;> with_reducible rfl)
            try simp only [Act.put, List.setIfInBounds_toArray, List.set_cons_zero, List.set_cons_succ]
            refine take_lit (i := 9) (v := ?_) rfl (by kernel_rfl) (by kernel_rfl) (by kernel_rfl) (fun _ _ _ h => h) (Or.inl ⟨by rfl, ?_⟩) (by assumption) ?_
            rotate_left
            · (intro w hSw; (try dsimp only at hSw); go_simp <;> with_reducible rfl)
            try simp only [Act.put, List.setIfInBounds_toArray, List.set_cons_zero, List.set_cons_succ]
            refine wpAnyH_done (by kernel_rfl) ?_ _
            exact ⟨gA, gB, rfl, hHeld⟩
          exact AllReadyH.nil
        exact AllReadyH.nil
      exact AllReadyH.nil
    refine cons_lit rfl (fun K hK => ?_) ?_
    · skip
      refine sBsH (.tmp 27) ⟨y, 0, true⟩ (by rfl) rfl rfl ?_
      intro gB wB lB lB' rB hB
      try replace rA := rA.below hB rA.lt
      refine hK.out _ _ ?_ (fun hHeld => ?_)
      · exact HK.out _ _ hHeld hB
      clear hK K
      try simp only [Act.put, List.setIfInBounds_toArray, List.set_cons_zero, List.set_cons_succ]
      refine wpAnyH_ready (rs := [2]) (by kernel_rfl) (by simp) ?_
      refine cons_lit rfl (fun K hK => ?_) ?_
      · skip
        refine sBsH (.tmp 23) ⟨b, 0, true⟩ (by rfl) rfl rfl ?_
        intro gA wA lA lA' rA hA
        try replace rB := rB.below hA rB.lt
        refine hK.out _ _ ?_ (fun hHeld => ?_)
        · exact HK.out _ _ hHeld hA
        clear hK K
        try simp only [Act.put, List.setIfInBounds_toArray, List.set_cons_zero, List.set_cons_succ]
        refine wpAnyH_ready (rs := [3]) (by kernel_rfl) (by simp) ?_
        refine cons_lit rfl (fun K hK => ?_) ?_
        · go_simp
          refine (A1 _ _ rA).mono ?_
          rintro e w1 ⟨rfl, hB1⟩
          try replace rB := rB.below hB1 rB.lt
          refine hK.out _ _ ?_ (fun hHeld => ?_)
          · exact HK.out _ _ hHeld hB1
          clear hK K
          try simp only [Act.put, List.setIfInBounds_toArray, List.set_cons_zero, List.set_cons_succ]
          refine wpAnyH_ready (rs := [7]) (by kernel_rfl) (by simp) ?_
          refine cons_lit rfl (fun K hK => ?_) ?_
          · go_simp
            refine (A2 _ _ rB).mono ?_
            rintro e w2 ⟨rfl, hB2⟩
            refine hK.out _ _ ?_ (fun hHeld => ?_)
            · exact HK.out _ _ hHeld hB2
            clear hK K
            try simp only [Act.put, List.setIfInBounds_toArray, List.set_cons_zero, List.set_cons_succ]
            refine take_lit (i := 8) (v := ?_) rfl (by kernel_rfl) (by kernel_rfl) (by kernel_rfl) (fun _ _ _ h => h) (Or.inl ⟨by rfl, ?_⟩) (by assumption) ?_
            rotate_left
            · (intro w hSw; (try dsimp only at hSw); go_simp <;> with_reducible rfl)
            try simp only [Act.put, List.setIfInBounds_toArray, List.set_cons_zero, List.set_cons_succ]
            refine take_lit (i := 9) (v := ?_) rfl (by kernel_rfl) (by kernel_rfl) (by kernel_rfl) (fun _ _ _ h => h) (Or.inl ⟨by rfl, ?_⟩) (by assumption) ?_
            rotate_left
            · (intro w hSw; (try dsimp only at hSw); go_simp <;> with_reducible rfl)
            try simp only [Act.put, List.setIfInBounds_toArray, List.set_cons_zero, List.set_cons_succ]
            refine wpAnyH_done (by kernel_rfl) ?_ _
            exact ⟨gA, gB, rfl, hHeld⟩
          exact AllReadyH.nil
        exact AllReadyH.nil
      exact AllReadyH.nil
    exact AllReadyH.nil
  case h2 =>
    clear HB
    intro gA gB X hX
    go_upto_region 4 with fail
    apply region_ex (PP := fun W => Below w.heap.size w W ∧ Row W w.heap.size 24 (hcs ⟨b, 0, true⟩) ∧ Row W (w.heap.size + 1) 24 (hcs ⟨y, 0, true⟩))
    case h1 =>
      refine wp_region_held_drew (S := fun W => Below w.heap.size w W ∧ Row W w.heap.size 24 (hcs ⟨b, 0, true⟩) ∧ Row W (w.heap.size + 1) 24 (hcs ⟨y, 0, true⟩)) (by kernel_rfl) (⟨hX.1.drew, hX.2.1, hX.2.2⟩) (fun hHeld => ?_)
      refine take_lit (i := 0) (v := ?_) rfl (by kernel_rfl) (by kernel_rfl) (by kernel_rfl) (fun _ _ _ h => h) (Or.inl ⟨by rfl, ?_⟩) (by assumption) ?_
      rotate_left
      · (intro w hSw; (try dsimp only at hSw); go_simp <;> with_reducible rfl)
      try simp only [Act.put, List.setIfInBounds_toArray, List.set_cons_zero, List.set_cons_succ]
      refine take_lit (i := 1) rfl (by kernel_rfl) (by kernel_rfl) (by kernel_rfl) (fun _ _ _ h => h) (yH ⟨b, 0, true⟩ (fun w h => h.2.1.range) (by rfl) rfl rfl) (by assumption) ?_
      try simp only [Act.put, List.setIfInBounds_toArray, List.set_cons_zero, List.set_cons_succ]
      refine take_lit (i := 4) (v := ?_) rfl (by kernel_rfl) (by kernel_rfl) (by kernel_rfl) (fun _ _ _ h => h) (Or.inl ⟨by rfl, ?_⟩) (by assumption) ?_
      rotate_left
      · (intro w hSw; (try dsimp only at hSw); go_simp <;> with_reducible rfl)
      try simp only [Act.put, List.setIfInBounds_toArray, List.set_cons_zero, List.set_cons_succ]
      refine take_lit (i := 5) rfl (by kernel_rfl) (by kernel_rfl) (by kernel_rfl) (fun _ _ _ h => h) (yH ⟨y, 0, true⟩ (fun w h => h.2.2.range) (by rfl) rfl rfl) (by assumption) ?_
      try simp only [Act.put, List.setIfInBounds_toArray, List.set_cons_zero, List.set_cons_succ]
      refine wpAnyH_ready (rs := [2, 6]) (by kernel_rfl) (by simp) ?_
      refine cons_lit rfl (fun K hK => ?_) ?_
      · skip
        refine sBsH (.tmp 31) ⟨b, 0, true⟩ (by rfl) rfl rfl ?_
        intro gC wA lA lA' rA hA
        try replace rB := rB.below hA rB.lt
        refine hK.out _ _ ?_ (fun hHeld => ?_)
        · exact HK.out _ _ hHeld hA
        clear hK K
        try simp only [Act.put, List.setIfInBounds_toArray, List.set_cons_zero, List.set_cons_succ]
        refine wpAnyH_ready (rs := [3, 6]) (by kernel_rfl) (by simp) ?_
        refine cons_lit rfl (fun K hK => ?_) ?_
        · go_simp
          refine (A3 _ _ rA).mono ?_
          rintro e w1 ⟨rfl, hB1⟩
          try replace rB := rB.below hB1 rB.lt
          refine hK.out _ _ ?_ (fun hHeld => ?_)
          · exact HK.out _ _ hHeld hB1
          clear hK K
          try simp only [Act.put, List.setIfInBounds_toArray, List.set_cons_zero, List.set_cons_succ]
          refine wpAnyH_ready (rs := [6]) (by kernel_rfl) (by simp) ?_
          refine cons_lit rfl (fun K hK => ?_) ?_
          · skip
            refine sBsH (.tmp 35) ⟨y, 0, true⟩ (by rfl) rfl rfl ?_
            intro gD wB lB lB' rB hB
            try replace rA := rA.below hB rA.lt
            refine hK.out _ _ ?_ (fun hHeld => ?_)
            · exact HK.out _ _ hHeld hB
            clear hK K
            try simp only [Act.put, List.setIfInBounds_toArray, List.set_cons_zero, List.set_cons_succ]
            refine wpAnyH_ready (rs := [7]) (by kernel_rfl) (by simp) ?_
            refine cons_lit rfl (fun K hK => ?_) ?_
            · go_simp
              refine (A4 _ _ rB).mono ?_
              rintro e w2 ⟨rfl, hB2⟩
              refine hK.out _ _ ?_ (fun hHeld => ?_)
              · exact HK.out _ _ hHeld hB2
              clear hK K
              try simp only [Act.put, List.setIfInBounds_toArray, List.set_cons_zero, List.set_cons_succ]
              refine take_lit (i := 8) (v := ?_) rfl (by kernel_rfl) (by kernel_rfl) (by kernel_rfl) (fun _ _ _ h => h) (Or.inl ⟨by rfl, ?_⟩) (by assumption) ?_
              rotate_left
              · (intro w hSw; (try dsimp only at hSw); go_simp <;> with_reducible rfl)
              try simp only [Act.put, List.setIfInBounds_toArray, List.set_cons_zero, List.set_cons_succ]
              refine take_lit (i := 9) (v := ?_) rfl (by kernel_rfl) (by kernel_rfl) (by kernel_rfl) (fun _ _ _ h => h) (Or.inl ⟨by rfl, ?_⟩) (by assumption) ?_
              rotate_left
              · (intro w hSw; (try dsimp only at hSw); go_simp <;> with_reducible rfl)
              try simp only [Act.put, List.setIfInBounds_toArray, List.set_cons_zero, List.set_cons_succ]
              refine wpAnyH_done (by kernel_rfl) ?_ _
              exact ⟨gC, gD, rfl, hHeld⟩
            exact AllReadyH.nil
          exact AllReadyH.nil
        refine cons_lit rfl (fun K hK => ?_) ?_
        · skip
          refine sBsH (.tmp 35) ⟨y, 0, true⟩ (by rfl) rfl rfl ?_
          intro gD wB lB lB' rB hB
          try replace rA := rA.below hB rA.lt
          refine hK.out _ _ ?_ (fun hHeld => ?_)
          · exact HK.out _ _ hHeld hB
          clear hK K
          try simp only [Act.put, List.setIfInBounds_toArray, List.set_cons_zero, List.set_cons_succ]
          refine wpAnyH_ready (rs := [3]) (by kernel_rfl) (by simp) ?_
          refine cons_lit rfl (fun K hK => ?_) ?_
          · go_simp
            refine (A3 _ _ rA).mono ?_
            rintro e w1 ⟨rfl, hB1⟩
            try replace rB := rB.below hB1 rB.lt
            refine hK.out _ _ ?_ (fun hHeld => ?_)
            · exact HK.out _ _ hHeld hB1
            clear hK K
            try simp only [Act.put, List.setIfInBounds_toArray, List.set_cons_zero, List.set_cons_succ]
            refine wpAnyH_ready (rs := [7]) (by kernel_rfl) (by simp) ?_
            refine cons_lit rfl (fun K hK => ?_) ?_
            · go_simp
              refine (A4 _ _ rB).mono ?_
              rintro e w2 ⟨rfl, hB2⟩
              refine hK.out _ _ ?_ (fun hHeld => ?_)
              · exact HK.out _ _ hHeld hB2
              clear hK K
              try simp only [Act.put, List.setIfInBounds_toArray, List.set_cons_zero, List.set_cons_succ]
              refine take_lit (i := 8) (v := ?_) rfl (by kernel_rfl) (by kernel_rfl) (by kernel_rfl) (fun _ _ _ h => h) (Or.inl ⟨by rfl, ?_⟩) (by assumption) ?_
              rotate_left
              · (intro w hSw; (try dsimp only at hSw); go_simp <;> with_reducible rfl)
              try simp only [Act.put, List.setIfInBounds_toArray, List.set_cons_zero, List.set_cons_succ]
              refine take_lit (i := 9) (v := ?_) rfl (by kernel_rfl) (by kernel_rfl) (by kernel_rfl) (fun _ _ _ h => h) (Or.inl ⟨by rfl, ?_⟩) (by assumption) ?_
              rotate_left
              · (intro w hSw; (try dsimp only at hSw); go_simp <;> with_reducible rfl)
              try simp only [Act.put, List.setIfInBounds_toArray, List.set_cons_zero, List.set_cons_succ]
              refine wpAnyH_done (by kernel_rfl) ?_ _
              exact ⟨gC, gD, rfl, hHeld⟩
            exact AllReadyH.nil
          exact AllReadyH.nil
        exact AllReadyH.nil
      refine cons_lit rfl (fun K hK => ?_) ?_
      · skip
        refine sBsH (.tmp 35) ⟨y, 0, true⟩ (by rfl) rfl rfl ?_
        intro gD wB lB lB' rB hB
        try replace rA := rA.below hB rA.lt
        refine hK.out _ _ ?_ (fun hHeld => ?_)
        · exact HK.out _ _ hHeld hB
        clear hK K
        try simp only [Act.put, List.setIfInBounds_toArray, List.set_cons_zero, List.set_cons_succ]
        refine wpAnyH_ready (rs := [2]) (by kernel_rfl) (by simp) ?_
        refine cons_lit rfl (fun K hK => ?_) ?_
        · skip
          refine sBsH (.tmp 31) ⟨b, 0, true⟩ (by rfl) rfl rfl ?_
          intro gC wA lA lA' rA hA
          try replace rB := rB.below hA rB.lt
          refine hK.out _ _ ?_ (fun hHeld => ?_)
          · exact HK.out _ _ hHeld hA
          clear hK K
          try simp only [Act.put, List.setIfInBounds_toArray, List.set_cons_zero, List.set_cons_succ]
          refine wpAnyH_ready (rs := [3]) (by kernel_rfl) (by simp) ?_
          refine cons_lit rfl (fun K hK => ?_) ?_
          · go_simp
            refine (A3 _ _ rA).mono ?_
            rintro e w1 ⟨rfl, hB1⟩
            try replace rB := rB.below hB1 rB.lt
            refine hK.out _ _ ?_ (fun hHeld => ?_)
            · exact HK.out _ _ hHeld hB1
            clear hK K
            try simp only [Act.put, List.setIfInBounds_toArray, List.set_cons_zero, List.set_cons_succ]
            refine wpAnyH_ready (rs := [7]) (by kernel_rfl) (by simp) ?_
            refine cons_lit rfl (fun K hK => ?_) ?_
            · go_simp
              refine (A4 _ _ rB).mono ?_
              rintro e w2 ⟨rfl, hB2⟩
              refine hK.out _ _ ?_ (fun hHeld => ?_)
              · exact HK.out _ _ hHeld hB2
              clear hK K
              try simp only [Act.put, List.setIfInBounds_toArray, List.set_cons_zero, List.set_cons_succ]
              refine take_lit (i := 8) (v := ?_) rfl (by kernel_rfl) (by kernel_rfl) (by kernel_rfl) (fun _ _ _ h => h) (Or.inl ⟨by rfl, ?_⟩) (by assumption) ?_
              rotate_left
              · (intro w hSw; (try dsimp only at hSw); go_simp <;> with_reducible rfl)
              try simp only [Act.put, List.setIfInBounds_toArray, List.set_cons_zero, List.set_cons_succ]
              refine take_lit (i := 9) (v := ?_) rfl (by kernel_rfl) (by kernel_rfl) (by kernel_rfl) (fun _ _ _ h => h) (Or.inl ⟨by rfl, ?_⟩) (by assumption) ?_
              rotate_left
              · (intro w hSw; (try dsimp only at hSw); go_simp <;> with_reducible rfl)
              try simp only [Act.put, List.setIfInBounds_toArray, List.set_cons_zero, List.set_cons_succ]
              refine wpAnyH_done (by kernel_rfl) ?_ _
              exact ⟨gC, gD, rfl, hHeld⟩
            exact AllReadyH.nil
          exact AllReadyH.nil
        exact AllReadyH.nil
      exact AllReadyH.nil
    case h2 =>
      clear hX X A1 A2 A3 A4 HK
      intro gC gD X hX
      obtain ⟨hX, x1, x2⟩ := hX
      have z1 : X.cell? ⟨w.heap.size, 0, none⟩ = some (.int .u16 (b : Int)) := x1.cell 0
      have z2 : X.cell? ⟨w.heap.size, 1, none⟩ = some (.int .u16 0) := x1.cell 1
      have z3 : X.cell? ⟨w.heap.size, 2, none⟩ = some (.bool true) := x1.cell 2
      have z4 : X.cell? ⟨w.heap.size + 1, 0, none⟩ = some (.int .u16 (y : Int)) := x2.cell 0
      have z5 : X.cell? ⟨w.heap.size + 1, 1, none⟩ = some (.int .u16 0) := x2.cell 1
      have z6 : X.cell? ⟨w.heap.size + 1, 2, none⟩ = some (.bool true) := x2.cell 2
      have hlt := x2.lt
      clear x1 x2
      have q3 : U = tx ∨ ¬ U = tx ∧ U = 65535 := by omega
      have hXa : Below w.heap.size w (X.alloc (.cells #[.int .u16 (b : Int), .int .u16 0, .bool true, .int .u16 (y : Int), .int .u16 0, .bool true] 24)) := hX.alloc hX.size _
      have rX := Row.new X 24 (hcs ⟨b, 0, true⟩ ++ hcs ⟨y, 0, true⟩)
      have st0 : True := trivial
      by_cases hA : A = cost
      · obtain rfl := p2 hA
        subst hA
        rw [show min A A = A by omega] at A5
        clear p1 p2 q1
        rcases q3 with q3 | ⟨q3, q4⟩
        · subst q3
          go_wp2_with (first
            | (have kk := st0; go_at_call 13; refine (A5 _ _ rX).mono ?_; rintro e w1 ⟨rfl, hw⟩; clear kk st0; have st1 : True := trivial; replace hX := hXa.trans (hw.mono hXa.size); clear hXa hw rX)
            | (have kk := st1; go_at_call 15; (first | ((with_reducible refine (K1 _).mono ?_); rintro e w2 ⟨rfl, rfl⟩) | ((with_reducible refine (K2 _).mono ?_); rintro e w2 ⟨rfl, rfl⟩) | ((with_reducible refine (K3 _).mono ?_); rintro e w2 ⟨rfl, rfl⟩)))
            | (go_at_call 8; refine (live_any _).mono ?_; rintro e w3 ⟨rfl, hw⟩))
          go_ret
          exact ⟨rfl, hX.trans (hw.mono hX.size)⟩
        · have q5 : (U == tx) = false := by simpa using q3
          subst q4
          clear q3
          go_wp2_with (first
            | (have kk := st0; go_at_call 13; refine (A5 _ _ rX).mono ?_; rintro e w1 ⟨rfl, hw⟩; clear kk st0; have st1 : True := trivial; replace hX := hXa.trans (hw.mono hXa.size); clear hXa hw rX)
            | (have kk := st1; go_at_call 15; (first | ((with_reducible refine (K1 _).mono ?_); rintro e w2 ⟨rfl, rfl⟩) | ((with_reducible refine (K2 _).mono ?_); rintro e w2 ⟨rfl, rfl⟩) | ((with_reducible refine (K3 _).mono ?_); rintro e w2 ⟨rfl, rfl⟩)))
            | (go_at_call 8; refine (live_any _).mono ?_; rintro e w3 ⟨rfl, hw⟩))
          go_ret
          exact ⟨rfl, hX.trans (hw.mono hX.size)⟩
      · obtain rfl : A = 65535 := by omega
        have hc2 : cost < 65535 := by omega
        rw [show min 65535 C = C by omega] at A5
        clear p1 p2 q1 hA
        by_cases hC : C = 65535
        · subst hC
          rcases q3 with q3 | ⟨q3, q4⟩
          · subst q3
            go_wp2_with (first
              | (have kk := st0; go_at_call 13; refine (A5 _ _ rX).mono ?_; rintro e w1 ⟨rfl, hw⟩; clear kk st0; have st1 : True := trivial; replace hX := hXa.trans (hw.mono hXa.size); clear hXa hw rX)
              | (have kk := st1; go_at_call 15; (first | ((with_reducible refine (K1 _).mono ?_); rintro e w2 ⟨rfl, rfl⟩) | ((with_reducible refine (K2 _).mono ?_); rintro e w2 ⟨rfl, rfl⟩) | ((with_reducible refine (K3 _).mono ?_); rintro e w2 ⟨rfl, rfl⟩)))
              | (go_at_call 8; refine (live_any _).mono ?_; rintro e w3 ⟨rfl, hw⟩))
            go_ret
            exact ⟨rfl, hX.trans (hw.mono hX.size)⟩
          · have q5 : (U == tx) = false := by simpa using q3
            subst q4
            clear q3
            go_wp2_with (first
              | (have kk := st0; go_at_call 13; refine (A5 _ _ rX).mono ?_; rintro e w1 ⟨rfl, hw⟩; clear kk st0; have st1 : True := trivial; replace hX := hXa.trans (hw.mono hXa.size); clear hXa hw rX)
              | (have kk := st1; go_at_call 15; (first | ((with_reducible refine (K1 _).mono ?_); rintro e w2 ⟨rfl, rfl⟩) | ((with_reducible refine (K2 _).mono ?_); rintro e w2 ⟨rfl, rfl⟩) | ((with_reducible refine (K3 _).mono ?_); rintro e w2 ⟨rfl, rfl⟩)))
              | (go_at_call 8; refine (live_any _).mono ?_; rintro e w3 ⟨rfl, hw⟩))
            go_ret
            exact ⟨rfl, hX.trans (hw.mono hX.size)⟩
        · have hC' : C < 65535 := by omega
          clear hC
          rcases q3 with q3 | ⟨q3, q4⟩
          · subst q3
            go_wp2_with (first
              | (have kk := st0; go_at_call 13; refine (A5 _ _ rX).mono ?_; rintro e w1 ⟨rfl, hw⟩; clear kk st0; have st1 : True := trivial; replace hX := hXa.trans (hw.mono hXa.size); clear hXa hw rX)
              | (have kk := st1; go_at_call 15; (first | ((with_reducible refine (K1 _).mono ?_); rintro e w2 ⟨rfl, rfl⟩) | ((with_reducible refine (K2 _).mono ?_); rintro e w2 ⟨rfl, rfl⟩) | ((with_reducible refine (K3 _).mono ?_); rintro e w2 ⟨rfl, rfl⟩)))
              | (go_at_call 8; refine (live_any _).mono ?_; rintro e w3 ⟨rfl, hw⟩))
            go_ret
            exact ⟨rfl, hX.trans (hw.mono hX.size)⟩
          · have q5 : (U == tx) = false := by simpa using q3
            subst q4
            clear q3
            go_wp2_with (first
              | (have kk := st0; go_at_call 13; refine (A5 _ _ rX).mono ?_; rintro e w1 ⟨rfl, hw⟩; clear kk st0; have st1 : True := trivial; replace hX := hXa.trans (hw.mono hXa.size); clear hXa hw rX)
              | (have kk := st1; go_at_call 15; (first | ((with_reducible refine (K1 _).mono ?_); rintro e w2 ⟨rfl, rfl⟩) | ((with_reducible refine (K2 _).mono ?_); rintro e w2 ⟨rfl, rfl⟩) | ((with_reducible refine (K3 _).mono ?_); rintro e w2 ⟨rfl, rfl⟩)))
              | (go_at_call 8; refine (live_any _).mono ?_; rintro e w3 ⟨rfl, hw⟩))
            go_ret
            exact ⟨rfl, hX.trans (hw.mono hX.size)⟩
theorem wired_any (cost b m tx : Int) (w : World) (hc : 0 ≤ cost) (hc' : cost < 65536) (hb : 0 ≤ b) (hb' : b < 65536) (hm : 0 ≤ m) (hm' : m < 65536) (ht : 0 ≤ tx) (ht' : tx < 65536) :
    Calls Try.prog 7 #[.int .u16 cost, .int .u16 b, .int .u16 m, .int .u16 tx] w (Gives w (.bool true)) := by
  obtain ⟨x, rfl⟩ := Int.eq_ofNat_of_zero_le hb
  obtain ⟨y, rfl⟩ := Int.eq_ofNat_of_zero_le hm
  exact wired_walk cost x y tx w hc hc' (by omega) (by omega) ht ht'
end Go.Proofs.Ytpkjdfdjjobjgaa
