/- The greatest lift of a nozzle that keeps it dry, of the model. -/
import Derived.Test.YtejeikfgmiadhabLl10
import Derived.Test.YtejeikfgmiadhabQ1
import Derived.Test.YtejeikfgmiadhabQ2
import Derived.Deep.RegionHeld3
import Derived.StillTailTactics
namespace Go.Proofs.Ytejeikfgmiadhab.Lm10
open Go.RowKit Go.ChangeShapes Go.WideShapes Go.WideElems Go.Deep Go.Proofs.Ytejeikfgmiadhab.Mem Go.Proofs.Ytejeikfgmiadhab.Rw Go.Proofs.Ytejeikfgmiadhab.P2 Go.Proofs.Ytejeikfgmiadhab.Bk Go.Proofs.Ytejeikfgmiadhab.Jt Go.Proofs.Ytejeikfgmiadhab.Cm Go.Proofs.Ytejeikfgmiadhab.Cx Go.Proofs.Ytejeikfgmiadhab.Pl Go.Proofs.Ytejeikfgmiadhab.Hd Go.Proofs.Ytejeikfgmiadhab.Str
open Go.Proofs.Ytejeikfgmiadhab.Wz Go.Proofs.Ytejeikfgmiadhab.Fw10 Go.Proofs.Ytejeikfgmiadhab.Fa10
open Go.Proofs.Ytejeikfgmiadhab.Wr (rs)
open Go.Proofs.Ytejeikfgmiadhab.Pls (pls)
open Go.Proofs.Ytejeikfgmiadhab.Bo (boxA Q4 bq)
open Go.Proofs.Ytejeikfgmiadhab.Bxi (bx ib isBoxI)
open Go.Proofs.Ytejeikfgmiadhab.Ds (devB nozB)
open Go.Proofs.Ytejeikfgmiadhab.Ll10
open Go.Proofs.Ytejeikfgmiadhab.Lb10 (lbB lbQ lb_yes lb_no landBoxS)
open Go.Proofs.Ytejeikfgmiadhab.Tb (box4)
set_option linter.unusedVariables false
set_option linter.unusedSimpArgs false

section
open Go.Proofs.Ytejeikfgmiadhab.Bxi (bx ib)
open Go.Proofs.Ytejeikfgmiadhab.Pw
theorem isBoxS (x y z u : Int) (w : World) : Calls Try.prog 13 #[.agg #[.int .i64 x, .int .i64 y, .int .i64 z, .int .i64 u]] w fun e w' => e = .returned (.bool (bx x y z u)) ∧ Below w.heap.size w w' := by
  unfold bx
  cases p : (ms x && ms y)
  · have C1 := Lib.hid (isPlaceS_of p)
    clear p
    go_enter Try.func13, Try.ntmps13
    go_wp2_with fail
    refine (C1.out _).mono ?_
    rintro e w' ⟨rfl, rfl⟩
    go_wp2_with fail
    go_returns
    exact ⟨rfl, by go_grown⟩
  cases q : (ms z && ms u)
  · have C1 := Lib.hid (isPlaceS_of p)
    have C2 := Lib.hid (isPlaceS_of q)
    clear p q
    go_enter Try.func13, Try.ntmps13
    go_wp2_with fail
    refine (C1.out _).mono ?_
    rintro e w' ⟨rfl, rfl⟩
    go_wp2_with fail
    refine (C2.out _).mono ?_
    rintro e w' ⟨rfl, rfl⟩
    go_wp2_with fail
    go_returns
    exact ⟨rfl, by go_grown⟩
  · have C1 := Lib.hid (isPlaceS_of p)
    have C2 := Lib.hid (isPlaceS_of q)
    clear p q
    by_cases h1 : x ≤ z <;> by_cases h2 : y ≤ u
    all_goals
      go_enter Try.func13, Try.ntmps13
      go_wp2_with fail
      refine (C1.out _).mono ?_
      rintro e w' ⟨rfl, rfl⟩
      go_wp2_with fail
      refine (C2.out _).mono ?_
      rintro e w' ⟨rfl, rfl⟩
      go_wp2_with fail
      all_goals first | omega | skip
      all_goals go_returns
      all_goals refine ⟨?_, by go_grown⟩
      all_goals first | (simp [*]; done) | (simp [*]; omega)

set_option maxHeartbeats 2000000 in
theorem inBoxS (x y z u a b : Int) (w : World) : Calls Try.prog 33 #[.agg #[.int .i64 x, .int .i64 y, .int .i64 z, .int .i64 u], .agg #[.int .i64 a, .int .i64 b]] w fun e w' => e = .returned (.bool (ib x y z u a b)) ∧ Below w.heap.size w w' := by
  unfold ib
  have C := isBoxS x y z u
  generalize bx x y z u = r at *
  replace C := Lib.hid C
  cases r
  · go_enter Try.func33, Try.ntmps33
    go_wp2_with fail
    refine (C.out _).mono ?_
    rintro e v ⟨rfl, hb⟩
    have hB : Below w.heap.size w v := Below.trans (by go_grown) (hb.mono (by go_size))
    clear hb
    go_wp2_with fail
    go_returns
    exact ⟨rfl, by go_grown⟩
  · by_cases h1 : x ≤ a
    · by_cases h2 : a ≤ z
      · by_cases h3 : y ≤ b
        · by_cases h4 : b ≤ u
          · go_enter Try.func33, Try.ntmps33
            go_wp2_with fail
            refine (C.out _).mono ?_
            rintro e v ⟨rfl, hb⟩
            have m1 : v.cell? ⟨w.heap.size, 0, none⟩ = some (.int .i64 x) := cell_below hb (by simp [go_sem])
            have m2 : v.cell? ⟨w.heap.size, 1, none⟩ = some (.int .i64 y) := cell_below hb (by simp [go_sem])
            have m3 : v.cell? ⟨w.heap.size, 2, none⟩ = some (.int .i64 z) := cell_below hb (by simp [go_sem])
            have m4 : v.cell? ⟨w.heap.size, 3, none⟩ = some (.int .i64 u) := cell_below hb (by simp [go_sem])
            have m5 : v.cell? ⟨w.heap.size + 1, 0, none⟩ = some (.int .i64 a) := cell_below hb (by simp [go_sem])
            have m6 : v.cell? ⟨w.heap.size + 1, 1, none⟩ = some (.int .i64 b) := cell_below hb (by simp [go_sem])
            have hB : Below w.heap.size w v := Below.trans (by go_grown) (hb.mono (by go_size))
            clear hb
            go_wp2_with fail
            all_goals first | omega | skip
            all_goals go_returns
            all_goals refine ⟨?_, by go_grown⟩
            all_goals first | (simp [*]; done) | (simp [*]; omega)
          · go_enter Try.func33, Try.ntmps33
            go_wp2_with fail
            refine (C.out _).mono ?_
            rintro e v ⟨rfl, hb⟩
            have m1 : v.cell? ⟨w.heap.size, 0, none⟩ = some (.int .i64 x) := cell_below hb (by simp [go_sem])
            have m2 : v.cell? ⟨w.heap.size, 1, none⟩ = some (.int .i64 y) := cell_below hb (by simp [go_sem])
            have m3 : v.cell? ⟨w.heap.size, 2, none⟩ = some (.int .i64 z) := cell_below hb (by simp [go_sem])
            have m4 : v.cell? ⟨w.heap.size, 3, none⟩ = some (.int .i64 u) := cell_below hb (by simp [go_sem])
            have m5 : v.cell? ⟨w.heap.size + 1, 0, none⟩ = some (.int .i64 a) := cell_below hb (by simp [go_sem])
            have m6 : v.cell? ⟨w.heap.size + 1, 1, none⟩ = some (.int .i64 b) := cell_below hb (by simp [go_sem])
            have hB : Below w.heap.size w v := Below.trans (by go_grown) (hb.mono (by go_size))
            clear hb
            go_wp2_with fail
            all_goals first | omega | skip
            all_goals go_returns
            all_goals refine ⟨?_, by go_grown⟩
            all_goals first | (simp [*]; done) | (simp [*]; omega)
        · go_enter Try.func33, Try.ntmps33
          go_wp2_with fail
          refine (C.out _).mono ?_
          rintro e v ⟨rfl, hb⟩
          have m1 : v.cell? ⟨w.heap.size, 0, none⟩ = some (.int .i64 x) := cell_below hb (by simp [go_sem])
          have m2 : v.cell? ⟨w.heap.size, 1, none⟩ = some (.int .i64 y) := cell_below hb (by simp [go_sem])
          have m3 : v.cell? ⟨w.heap.size, 2, none⟩ = some (.int .i64 z) := cell_below hb (by simp [go_sem])
          have m4 : v.cell? ⟨w.heap.size, 3, none⟩ = some (.int .i64 u) := cell_below hb (by simp [go_sem])
          have m5 : v.cell? ⟨w.heap.size + 1, 0, none⟩ = some (.int .i64 a) := cell_below hb (by simp [go_sem])
          have m6 : v.cell? ⟨w.heap.size + 1, 1, none⟩ = some (.int .i64 b) := cell_below hb (by simp [go_sem])
          have hB : Below w.heap.size w v := Below.trans (by go_grown) (hb.mono (by go_size))
          clear hb
          go_wp2_with fail
          all_goals first | omega | skip
          all_goals go_returns
          all_goals refine ⟨?_, by go_grown⟩
          all_goals first | (simp [*]; done) | (simp [*]; omega)
      · go_enter Try.func33, Try.ntmps33
        go_wp2_with fail
        refine (C.out _).mono ?_
        rintro e v ⟨rfl, hb⟩
        have m1 : v.cell? ⟨w.heap.size, 0, none⟩ = some (.int .i64 x) := cell_below hb (by simp [go_sem])
        have m2 : v.cell? ⟨w.heap.size, 1, none⟩ = some (.int .i64 y) := cell_below hb (by simp [go_sem])
        have m3 : v.cell? ⟨w.heap.size, 2, none⟩ = some (.int .i64 z) := cell_below hb (by simp [go_sem])
        have m4 : v.cell? ⟨w.heap.size, 3, none⟩ = some (.int .i64 u) := cell_below hb (by simp [go_sem])
        have m5 : v.cell? ⟨w.heap.size + 1, 0, none⟩ = some (.int .i64 a) := cell_below hb (by simp [go_sem])
        have m6 : v.cell? ⟨w.heap.size + 1, 1, none⟩ = some (.int .i64 b) := cell_below hb (by simp [go_sem])
        have hB : Below w.heap.size w v := Below.trans (by go_grown) (hb.mono (by go_size))
        clear hb
        go_wp2_with fail
        all_goals first | omega | skip
        all_goals go_returns
        all_goals refine ⟨?_, by go_grown⟩
        all_goals first | (simp [*]; done) | (simp [*]; omega)
    · go_enter Try.func33, Try.ntmps33
      go_wp2_with fail
      refine (C.out _).mono ?_
      rintro e v ⟨rfl, hb⟩
      have m1 : v.cell? ⟨w.heap.size, 0, none⟩ = some (.int .i64 x) := cell_below hb (by simp [go_sem])
      have m2 : v.cell? ⟨w.heap.size, 1, none⟩ = some (.int .i64 y) := cell_below hb (by simp [go_sem])
      have m3 : v.cell? ⟨w.heap.size, 2, none⟩ = some (.int .i64 z) := cell_below hb (by simp [go_sem])
      have m4 : v.cell? ⟨w.heap.size, 3, none⟩ = some (.int .i64 u) := cell_below hb (by simp [go_sem])
      have m5 : v.cell? ⟨w.heap.size + 1, 0, none⟩ = some (.int .i64 a) := cell_below hb (by simp [go_sem])
      have m6 : v.cell? ⟨w.heap.size + 1, 1, none⟩ = some (.int .i64 b) := cell_below hb (by simp [go_sem])
      have hB : Below w.heap.size w v := Below.trans (by go_grown) (hb.mono (by go_size))
      clear hb
      go_wp2_with fail
      all_goals first | omega | skip
      all_goals go_returns
      all_goals refine ⟨?_, by go_grown⟩
      all_goals first | (simp [*]; done) | (simp [*]; omega)

end

set_option maxRecDepth 100000 in
set_option maxHeartbeats 4000000 in
theorem withinS (q1 q2 q3 q4 x y z u : Int) (w : World) :
    Calls Try.prog 16 #[.agg #[.int .i64 q1, .int .i64 q2, .int .i64 q3, .int .i64 q4], .agg #[.int .i64 x, .int .i64 y, .int .i64 z, .int .i64 u]] w fun e w' => e = .returned (.bool (ib x y z u q1 q2 && ib x y z u q3 q4)) ∧ Below w.heap.size w w' := by
  have b0a := (Below.refl w.heap.size w).alloc (Nat.le_refl _) (.cells #[.int .i64 q1, .int .i64 q2, .int .i64 q3, .int .i64 q4] 39)
  have hz1 : (w.alloc (.cells #[.int .i64 q1, .int .i64 q2, .int .i64 q3, .int .i64 q4] 39)).heap.size = w.heap.size + 1 := by simp [go_sem]
  have B0 := Lib.hid (b0a.alloc b0a.size (.cells #[.int .i64 x, .int .i64 y, .int .i64 z, .int .i64 u] 39))
  have KS := Lib.hid ((Bk.new w #[.int .i64 q1, .int .i64 q2, .int .i64 q3, .int .i64 q4] 39).alloc (o := .cells #[.int .i64 x, .int .i64 y, .int .i64 z, .int .i64 u] 39))
  have KB := Bk.new (w.alloc (.cells #[.int .i64 q1, .int .i64 q2, .int .i64 q3, .int .i64 q4] 39)) #[.int .i64 x, .int .i64 y, .int .i64 z, .int .i64 u] 39
  rw [hz1] at KB
  have KB := Lib.hid KB
  obtain ⟨r1, h1⟩ : ∃ r, ib x y z u q1 q2 = r := ⟨_, rfl⟩
  obtain ⟨r2, h2⟩ : ∃ r, ib x y z u q3 q4 = r := ⟨_, rfl⟩
  have C1 := Lib.hid (fun (W : World) => (by have := inBoxS x y z u q1 q2 W; rw [h1] at this; exact this : Calls Try.prog 33 #[.agg #[.int .i64 x, .int .i64 y, .int .i64 z, .int .i64 u], .agg #[.int .i64 q1, .int .i64 q2]] W fun e w' => e = .returned (.bool r1) ∧ Below W.heap.size W w'))
  have C2 := Lib.hid (fun (W : World) => (by have := inBoxS x y z u q3 q4 W; rw [h2] at this; exact this : Calls Try.prog 33 #[.agg #[.int .i64 x, .int .i64 y, .int .i64 z, .int .i64 u], .agg #[.int .i64 q3, .int .i64 q4]] W fun e w' => e = .returned (.bool r2) ∧ Below W.heap.size W w'))
  rw [h1, h2]
  have hu : undef = Value.tuple #[] := rfl
  have s0 := KS.out.cell (i := 0) rfl
  have s1 := KS.out.cell (i := 1) rfl
  have s2 := KS.out.cell (i := 2) rfl
  have s3 := KS.out.cell (i := 3) rfl
  have k0 := KB.out.cell (i := 0) rfl
  have k1 := KB.out.cell (i := 1) rfl
  have k2 := KB.out.cell (i := 2) rfl
  have k3 := KB.out.cell (i := 3) rfl
  clear h1 h2 b0a hz1
  cases r1
  all_goals
    go_enter Try.func16, Try.ntmps16
    go_wp2_with fail
    refine (C1.out _).mono ?_
    rintro e w1 ⟨rfl, hb⟩
    have B1 := Lib.hid (B0.out.trans (hb.mono B0.out.size))
    have S1 := Lib.hid (KS.out.below hb)
    have K1 := Lib.hid (KB.out.below hb)
    clear hb C1 B0 KB KS s0 s1 s2 s3 k0 k1 k2 k3
  · go_wp2_with fail
    go_ret
    exact ⟨rfl, B1.out⟩
  · have s0 := S1.out.cell (i := 0) rfl
    have s1 := S1.out.cell (i := 1) rfl
    have s2 := S1.out.cell (i := 2) rfl
    have s3 := S1.out.cell (i := 3) rfl
    have k0 := K1.out.cell (i := 0) rfl
    have k1 := K1.out.cell (i := 1) rfl
    have k2 := K1.out.cell (i := 2) rfl
    have k3 := K1.out.cell (i := 3) rfl
    go_wp2_with fail
    refine (C2.out _).mono ?_
    rintro e w2 ⟨rfl, hb⟩
    have B2 := B1.out.trans (hb.mono B1.out.size)
    clear hb C2 B1 S1 K1 s0 s1 s2 s3 k0 k1 k2 k3
    go_wp2_with fail
    go_ret
    exact ⟨by simp, B2⟩

/-- The device and the basin stand where they stood. -/
def Zb (w W : World) (nm : ByteArray) (kd : Int) (ln : ByteArray) (jx jy h t m x y z u : Int) : Prop := W.cell? ⟨w.heap.size, 0, none⟩ = some (.string nm) ∧ W.cell? ⟨w.heap.size, 1, none⟩ = some (.int .i64 kd) ∧ W.cell? ⟨w.heap.size, 2, none⟩ = some (.string ln) ∧ W.cell? ⟨w.heap.size, 3, none⟩ = some (.int .i64 jx) ∧ W.cell? ⟨w.heap.size, 4, none⟩ = some (.int .i64 jy) ∧ W.cell? ⟨w.heap.size, 5, none⟩ = some (.int .i64 h) ∧ W.cell? ⟨w.heap.size, 6, none⟩ = some (.int .i64 t) ∧ W.cell? ⟨w.heap.size, 7, none⟩ = some (.int .i64 m) ∧ W.cell? ⟨w.heap.size + 1, 0, none⟩ = some (.int .i64 x) ∧ W.cell? ⟨w.heap.size + 1, 1, none⟩ = some (.int .i64 y) ∧ W.cell? ⟨w.heap.size + 1, 2, none⟩ = some (.int .i64 z) ∧ W.cell? ⟨w.heap.size + 1, 3, none⟩ = some (.int .i64 u) ∧ Below w.heap.size w W
theorem Zb.below {w W V : World} {nm : ByteArray} {kd : Int} {ln : ByteArray} {jx jy h t m x y z u : Int} (h9 : Zb w W nm kd ln jx jy h t m x y z u) (hb : Below W.heap.size W V) : Zb w V nm kd ln jx jy h t m x y z u := by
  obtain ⟨f0, f1, f2, f3, f4, f5, f6, f7, f8, f9, f10, f11, fB⟩ := h9
  exact ⟨cell_below hb f0, cell_below hb f1, cell_below hb f2, cell_below hb f3, cell_below hb f4, cell_below hb f5, cell_below hb f6, cell_below hb f7, cell_below hb f8, cell_below hb f9, cell_below hb f10, cell_below hb f11, fB.trans (hb.mono fB.size)⟩
theorem Zb.bel {w W : World} {nm : ByteArray} {kd : Int} {ln : ByteArray} {jx jy h t m x y z u : Int} (h9 : Zb w W nm kd ln jx jy h t m x y z u) : Below w.heap.size w W := h9.2.2.2.2.2.2.2.2.2.2.2.2
set_option maxHeartbeats 1000000 in
theorem l9Jet (nm : ByteArray) (kd : Int) (ln : ByteArray) (jx jy h t m l : Int) (w : World) : Calls Try.prog 15 #[Dd.va nm kd ln jx jy h t m, .int .i64 l] w fun e w' => e = .returned (jv jx jy h t l) ∧ Below w.heap.size w w' := by
  go_enter Try.func15, Try.ntmps15
  go_wp2
  go_returns
  exact ⟨rfl, by go_grown⟩

set_option maxRecDepth 100000 in
set_option maxHeartbeats 4000000 in
theorem llS (nm : ByteArray) (kd : Int) (ln : ByteArray) (jx jy h t m : Int) (A9 : Option Addr) (n9 c9 : Nat) (ps : List (Int × Int)) (x y z u : Int) (w : World) (hs1 : nm.size ≤ 1048576) (hs2 : ln.size ≤ 1048576) (hn9 : ps.length = n9) (hb9 : n9 ≤ 1048576) (hr9 : Rd w w.heap.size A9 (pls ps)) :
    Calls Try.prog 6 #[Dd.va nm kd ln jx jy h t m, .slice A9 n9 c9, .agg #[.int .i64 x, .int .i64 y, .int .i64 z, .int .i64 u]] w fun e w' => e = .returned (.int .i64 (llV nm kd ln jx jy h t m ps x y z u)) ∧ Below w.heap.size w w' := by
  have b0a := (Below.refl w.heap.size w).alloc (Nat.le_refl _) (.cells #[.string nm, .int .i64 kd, .string ln, .int .i64 jx, .int .i64 jy, .int .i64 h, .int .i64 t, .int .i64 m] 34)
  have hz1 : (w.alloc (.cells #[.string nm, .int .i64 kd, .string ln, .int .i64 jx, .int .i64 jy, .int .i64 h, .int .i64 t, .int .i64 m] 34)).heap.size = w.heap.size + 1 := by simp [go_sem]
  have B0 := Lib.hid (b0a.alloc b0a.size (.cells #[.int .i64 x, .int .i64 y, .int .i64 z, .int .i64 u] 39))
  have KS := Lib.hid ((Bk.new w #[.string nm, .int .i64 kd, .string ln, .int .i64 jx, .int .i64 jy, .int .i64 h, .int .i64 t, .int .i64 m] 34).alloc (o := .cells #[.int .i64 x, .int .i64 y, .int .i64 z, .int .i64 u] 39))
  have KB := Bk.new (w.alloc (.cells #[.string nm, .int .i64 kd, .string ln, .int .i64 jx, .int .i64 jy, .int .i64 h, .int .i64 t, .int .i64 m] 34)) #[.int .i64 x, .int .i64 y, .int .i64 z, .int .i64 u] 39
  rw [hz1] at KB
  have KB := Lib.hid KB
  have s0 := KS.out.cell (i := 0) rfl
  have s1 := KS.out.cell (i := 1) rfl
  have s2 := KS.out.cell (i := 2) rfl
  have s3 := KS.out.cell (i := 3) rfl
  have s4 := KS.out.cell (i := 4) rfl
  have s5 := KS.out.cell (i := 5) rfl
  have s6 := KS.out.cell (i := 6) rfl
  have s7 := KS.out.cell (i := 7) rfl
  have k0 := KB.out.cell (i := 0) rfl
  have k1 := KB.out.cell (i := 1) rfl
  have k2 := KB.out.cell (i := 2) rfl
  have k3 := KB.out.cell (i := 3) rfl
  have Z0 := Lib.hid (show Zb w _ nm kd ln jx jy h t m x y z u from ⟨s0, s1, s2, s3, s4, s5, s6, s7, k0, k1, k2, k3, B0.out⟩)
  clear KS KB b0a hz1 B0
  obtain ⟨r1, h1⟩ : ∃ r, devB nm kd ln jx jy h t m = r := ⟨_, rfl⟩
  obtain ⟨r2, hp⟩ : ∃ r, rs ps = r := ⟨_, rfl⟩
  obtain ⟨r3, h3⟩ : ∃ r, bx x y z u = r := ⟨_, rfl⟩
  have CD := Lib.hid (fun (W : World) => (by have := Ds.isDeviceS nm kd ln jx jy h t m hs1 hs2 W; rw [h1] at this; exact this : Calls Try.prog 12 #[Dd.va nm kd ln jx jy h t m] W fun e w' => e = .returned (.bool r1) ∧ Below W.heap.size W w'))
  have CB := Lib.hid (fun (W : World) => (by have := isBoxS x y z u W; rw [h3] at this; exact this : Calls Try.prog 13 #[.agg #[.int .i64 x, .int .i64 y, .int .i64 z, .int .i64 u]] W fun e w' => e = .returned (.bool r3) ∧ Below W.heap.size W w'))
  have hu : undef = Value.tuple #[] := rfl
  clear hs1 hs2
  by_cases hall : (r1 && decide (kd = 2) && r3) = true
  · simp only [Bool.and_eq_true, decide_eq_true_eq] at hall
    obtain ⟨⟨rfl, rfl⟩, rfl⟩ := hall
    obtain ⟨⟨hm0, hm32⟩, hjt⟩ := noz_jet h1
    obtain ⟨M, rfl⟩ : ∃ M : Nat, m = (M : Int) := ⟨m.toNat, by omega⟩
    have HM := Lib.hid hm32
    have CJ := Lib.hid (fun (k : Nat) (W : World) => l9Jet nm 2 ln jx jy h t (M : Int) ((k : Int) + 1) W)
    have CL := Lib.hid (fun (k : Nat) (W : World) (h9 : Below w.heap.size w W) => landBoxS jx jy h t ((k : Int) + 1) A9 n9 c9 ps W hn9 hb9 ((hr9.below h9).more h9.size))
    cases r2
    · have hV : llV nm 2 ln jx jy h t (M : Int) ps x y z u = 0 := by
        unfold llV llD; rw [hp, if_neg]; simp
      rw [hV]
      have HP := Lib.hid hp
      clear hV hn9 hb9 hr9 h1 hp h3 hm0 hjt
      go_enter Try.func6, Try.ntmps6
      go_wp2_with fail
      clear s0 s1 s2 s3 s4 s5 s6 s7 k0 k1 k2 k3
      go_loopw [7, 8, 10] (fun v i ok9 wr => v = .int .i64 0 ∧ i = .int .i64 1 ∧ Hid (Zb w wr nm 2 ln jx jy h t (M : Int) x y z u)) (fun _ _ _ _ => 0)
      case atStart => exact ⟨rfl, rfl, Z0⟩
      case round =>
        obtain ⟨rfl, rfl, ZK⟩ := hrel
        clear Z0
        obtain ⟨f0, f1, f2, f3, f4, f5, f6, f7, f8, f9, f10, f11, fB⟩ := ZK.out
        by_cases hlt : 0 < M
        · have h1M : (1 : Int) ≤ (M : Int) := by omega
          obtain ⟨e1, e2⟩ := lb_no (Or.inr HP.out : jt jx jy h t (((0 : Nat) : Int) + 1) = false ∨ _)
          have CL0 := CL.out 0
          rw [e1, e2] at CL0
          unfold Bo.bq at CL0
          have CL0 := Lib.hid (show ∀ (W : World) (h9 : Below w.heap.size w W), Calls Try.prog 14 #[jv jx jy h t 1, .slice A9 n9 c9] W (fun e w' => e = .returned (.tuple #[box4 0 0 0 0, .bool false]) ∧ Below W.heap.size W w') from CL0)
          have CJ0 := Lib.hid (show ∀ (W : World), Calls Try.prog 15 #[Dd.va nm 2 ln jx jy h t (M : Int), .int .i64 1] W (fun e w' => e = .returned (jv jx jy h t 1) ∧ Below W.heap.size W w') from CJ.out 0)
          clear CL CJ e1 e2
          go_wp2_with fail
          clear f0 f1 f2 f3 f4 f5 f6 f7 f8 f9 f10 f11 fB
          refine (CD.out _).mono ?_
          rintro e w1 ⟨rfl, hb⟩
          have Z1 := Lib.hid (ZK.out.below hb)
          clear hb ZK
          obtain ⟨f0, f1, f2, f3, f4, f5, f6, f7, f8, f9, f10, f11, fB⟩ := Z1.out
          go_wp2_with fail
          clear f0 f1 f2 f3 f4 f5 f6 f7 f8 f9 f10 f11 fB
          refine (CB.out _).mono ?_
          rintro e w2 ⟨rfl, hb⟩
          have Z2 := Lib.hid (Z1.out.below hb)
          clear hb Z1
          obtain ⟨f0, f1, f2, f3, f4, f5, f6, f7, f8, f9, f10, f11, fB⟩ := Z2.out
          go_wp2_with fail
          clear f0 f1 f2 f3 f4 f5 f6 f7 f8 f9 f10 f11 fB
          refine (CJ0.out _).mono ?_
          rintro e w3 ⟨rfl, hb⟩
          have Z3 := Lib.hid (Z2.out.below hb)
          clear hb Z2
          obtain ⟨f0, f1, f2, f3, f4, f5, f6, f7, f8, f9, f10, f11, fB⟩ := Z3.out
          go_wp2_with fail
          clear f0 f1 f2 f3 f4 f5 f6 f7 f8 f9 f10 f11 fB
          refine (CL0.out _ Z3.out.bel).mono ?_
          rintro e w4 ⟨rfl, hb⟩
          have Z4 := Lib.hid (Z3.out.below hb)
          clear hb Z3
          obtain ⟨f0, f1, f2, f3, f4, f5, f6, f7, f8, f9, f10, f11, fB⟩ := Z4.out
          have BX := Lib.hid (Z4.out.bel.alloc Z4.out.bel.size (.cells #[.int .i64 0, .int .i64 0, .int .i64 0, .int .i64 0] 39))
          clear Z4
          go_wp2_with fail
          clear f0 f1 f2 f3 f4 f5 f6 f7 f8 f9 f10 f11 fB
          go_ret
          exact ⟨rfl, BX.out⟩
        · have h1M : ¬ (1 : Int) ≤ (M : Int) := by omega
          have BX := Lib.hid ZK.out.bel
          clear ZK
          go_wp2_with fail
          clear f0 f1 f2 f3 f4 f5 f6 f7 f8 f9 f10 f11 fB
          go_ret
          exact ⟨rfl, BX.out⟩
    have hV : llV nm 2 ln jx jy h t (M : Int) ps x y z u = (llN jx jy h t M ps x y z u : Int) := by
      unfold llV llD; rw [h1, hp, h3, if_pos (by decide), Int.toNat_natCast]
    rw [hV]
    obtain ⟨L9, hL⟩ : ∃ n, llN jx jy h t M ps x y z u = n := ⟨_, rfl⟩
    rw [hL]
    have HL := Lib.hid hL
    have HP := Lib.hid hp
    have HB := Lib.hid h3
    have HJ := Lib.hid hjt
    clear hV hL hn9 hb9 hr9 h1 hp h3 hm0 hjt
    go_enter Try.func6, Try.ntmps6
    go_wp2_with fail
    clear s0 s1 s2 s3 s4 s5 s6 s7 k0 k1 k2 k3
    go_loopw [7, 8, 10] (fun v i ok9 wr => ∃ k : Nat, k ≤ M ∧ v = .int .i64 (k : Int) ∧ i = .int .i64 ((k : Int) + 1) ∧ Hid (∀ j, j < k → wetL jx jy h t ps x y z u j = none) ∧ Hid (Zb w wr nm 2 ln jx jy h t (M : Int) x y z u)) (fun _ i _ _ => M + 1 - (intOf i).toNat)
    case atStart => exact ⟨0, Nat.zero_le _, rfl, rfl, Lib.hid (fun j hj => by omega), Z0⟩
    case round =>
      obtain ⟨k, hk, rfl, rfl, NK, ZK⟩ := hrel
      clear Z0
      have hm9 := HM.out
      obtain ⟨f0, f1, f2, f3, f4, f5, f6, f7, f8, f9, f10, f11, fB⟩ := ZK.out
      by_cases hlt : k < M
      · have hj := HJ.out ((k : Int) + 1) (by omega) (by omega)
        obtain ⟨e1, e2⟩ := lb_yes hj HP.out
        have CL0 := CL.out k
        rw [e1, e2] at CL0
        have hw := within_wet (jx := jx) (jy := jy) (h := h) (t := t) (l := (k : Int) + 1) HP.out HB.out
        obtain ⟨⟨q1, q2, q3, q4⟩, hq⟩ : ∃ q, lbox jx jy h t ((k : Int) + 1) ps = q := ⟨_, rfl⟩
        rw [hq] at CL0 hw
        unfold Bo.bq at CL0
        have CL0 := Lib.hid (show ∀ (W : World) (h9 : Below w.heap.size w W), Calls Try.prog 14 #[jv jx jy h t ((k : Int) + 1), .slice A9 n9 c9] W (fun e w' => e = .returned (.tuple #[box4 q1 q2 q3 q4, .bool true]) ∧ Below W.heap.size W w') from CL0)
        have CJ0 := Lib.hid (CJ.out k)
        obtain ⟨o, ho⟩ : ∃ o, wetL jx jy h t ps x y z u k = o := ⟨_, rfl⟩
        have HO := Lib.hid ho
        have hw : (ib x y z u q1 q2 && ib x y z u q3 q4) = o.isNone := by rw [← ho]; exact hw
        have CW0 := Lib.hid (fun (W : World) => (by have := withinS q1 q2 q3 q4 x y z u W; rw [hw] at this; exact this : Calls Try.prog 16 #[.agg #[.int .i64 q1, .int .i64 q2, .int .i64 q3, .int .i64 q4], .agg #[.int .i64 x, .int .i64 y, .int .i64 z, .int .i64 u]] W fun e w' => e = .returned (.bool o.isNone) ∧ Below W.heap.size W w'))
        clear CL CJ e1 e2 hq hw ho hj
        have w1 : IntKind.i64.wrap ((k : Int) + 1 + 1) = (k : Int) + 1 + 1 := IntWalk.i64_in _ (by omega)
        have w2 : wrap64 ((k : Int) + 1 + 1) = (k : Int) + 1 + 1 := IntWalk.wrap64_in _ (by omega)
        go_wp2_with fail
        clear f0 f1 f2 f3 f4 f5 f6 f7 f8 f9 f10 f11 fB
        refine (CD.out _).mono ?_
        rintro e w1 ⟨rfl, hb⟩
        have Z1 := Lib.hid (ZK.out.below hb)
        clear hb ZK
        obtain ⟨f0, f1, f2, f3, f4, f5, f6, f7, f8, f9, f10, f11, fB⟩ := Z1.out
        go_wp2_with fail
        clear f0 f1 f2 f3 f4 f5 f6 f7 f8 f9 f10 f11 fB
        refine (CB.out _).mono ?_
        rintro e w2 ⟨rfl, hb⟩
        have Z2 := Lib.hid (Z1.out.below hb)
        clear hb Z1
        obtain ⟨f0, f1, f2, f3, f4, f5, f6, f7, f8, f9, f10, f11, fB⟩ := Z2.out
        go_wp2_with fail
        clear f0 f1 f2 f3 f4 f5 f6 f7 f8 f9 f10 f11 fB
        refine (CJ0.out _).mono ?_
        rintro e w3 ⟨rfl, hb⟩
        have Z3 := Lib.hid (Z2.out.below hb)
        clear hb Z2
        obtain ⟨f0, f1, f2, f3, f4, f5, f6, f7, f8, f9, f10, f11, fB⟩ := Z3.out
        go_wp2_with fail
        clear f0 f1 f2 f3 f4 f5 f6 f7 f8 f9 f10 f11 fB
        refine (CL0.out _ Z3.out.bel).mono ?_
        rintro e w4 ⟨rfl, hb⟩
        have Z4 := Lib.hid (Z3.out.below hb)
        clear hb Z3
        obtain ⟨f0, f1, f2, f3, f4, f5, f6, f7, f8, f9, f10, f11, fB⟩ := Z4.out
        have hl9 : w.heap.size + 1 < w4.heap.size := World.block_lt_of_cell? w4 _ f8
        have KX := Lib.hid (Bk.new w4 #[.int .i64 q1, .int .i64 q2, .int .i64 q3, .int .i64 q4] 39)
        have Z5 := Lib.hid (Z4.out.below ((Below.refl w4.heap.size w4).alloc (Nat.le_refl _) (.cells #[.int .i64 q1, .int .i64 q2, .int .i64 q3, .int .i64 q4] 39)))
        clear f0 f1 f2 f3 f4 f5 f6 f7 f8 f9 f10 f11 fB
        clear Z4
        obtain ⟨f0, f1, f2, f3, f4, f5, f6, f7, f8, f9, f10, f11, fB⟩ := Z5.out
        have g0 := KX.out.cell (i := 0) rfl
        have g1 := KX.out.cell (i := 1) rfl
        have g2 := KX.out.cell (i := 2) rfl
        have g3 := KX.out.cell (i := 3) rfl
        cases o
        · go_wp2_with fail
          clear g0 g1 g2 g3
          clear f0 f1 f2 f3 f4 f5 f6 f7 f8 f9 f10 f11 fB
          refine (CW0.out _).mono ?_
          rintro e w6 ⟨rfl, hb⟩
          have Z6 := Lib.hid (Z5.out.below hb)
          have NN := Lib.hid (show ∀ j, j < k + 1 → wetL jx jy h t ps x y z u j = none from fun j hj => by
            by_cases e : j = k
            · rw [e]; exact HO.out
            · exact NK.out j (by omega))
          clear hb Z5 KX CW0 NK
          go_wp2_with fail
          go_roundw
          case rel => first | exact ⟨k + 1, by omega, by go_num, by go_num, NN, Z6⟩ | ((repeat apply Exists.intro); exact ⟨⟨k + 1, by omega, by go_num, by go_num, NN, Z6⟩, rfl⟩) | (trace_state; sorry)
          case measure => simp [intOf]; omega
        · have HE := Lib.hid (HL.out.symm.trans (ll_at hlt HO.out NK.out))
          go_wp2_with fail
          clear g0 g1 g2 g3
          clear f0 f1 f2 f3 f4 f5 f6 f7 f8 f9 f10 f11 fB
          refine (CW0.out _).mono ?_
          rintro e w6 ⟨rfl, hb⟩
          have Z6 := Lib.hid (Z5.out.below hb)
          have BX := Lib.hid Z6.out.bel
          clear hb Z5 KX CW0 NK Z6
          go_wp2_with fail
          go_ret
          exact ⟨by rw [HE.out]; rfl, BX.out⟩
      · obtain rfl : M = k := by omega
        have HE := Lib.hid (HL.out.symm.trans (ll_all NK.out))
        have BX := Lib.hid ZK.out.bel
        clear ZK
        go_wp2_with fail
        clear f0 f1 f2 f3 f4 f5 f6 f7 f8 f9 f10 f11 fB
        go_ret
        exact ⟨by rw [HE.out]; rfl, BX.out⟩
  have hV : llV nm kd ln jx jy h t m ps x y z u = 0 := by
    unfold llV llD; rw [h1, h3, if_neg]
    intro h9
    simp only [Bool.and_eq_true, decide_eq_true_eq] at h9 hall
    exact hall ⟨⟨h9.1.1.1, h9.1.1.2⟩, h9.2⟩
  rw [hV]
  clear hV hn9 hb9 hr9 h1 hp h3
  by_cases hm : 1 ≤ m
  · cases r1
    · clear hall CB
      go_enter Try.func6, Try.ntmps6
      go_wp2_with fail
      clear s0 s1 s2 s3 s4 s5 s6 s7 k0 k1 k2 k3
      go_loopw [7, 8, 10] (fun v i ok9 wr => v = .int .i64 0 ∧ i = .int .i64 1 ∧ Hid (Zb w wr nm kd ln jx jy h t m x y z u)) (fun _ _ _ _ => 0)
      case atStart => exact ⟨rfl, rfl, Z0⟩
      case round =>
        obtain ⟨rfl, rfl, ZK⟩ := hrel
        clear Z0
        obtain ⟨f0, f1, f2, f3, f4, f5, f6, f7, f8, f9, f10, f11, fB⟩ := ZK.out
        go_wp2_with fail
        clear f0 f1 f2 f3 f4 f5 f6 f7 f8 f9 f10 f11 fB
        refine (CD.out _).mono ?_
        rintro e w1 ⟨rfl, hb⟩
        have Z1 := Lib.hid (ZK.out.below hb)
        clear hb ZK
        obtain ⟨f0, f1, f2, f3, f4, f5, f6, f7, f8, f9, f10, f11, fB⟩ := Z1.out
        have BX := Lib.hid Z1.out.bel
        clear Z1
        go_wp2_with fail
        clear f0 f1 f2 f3 f4 f5 f6 f7 f8 f9 f10 f11 fB
        go_ret
        exact ⟨rfl, BX.out⟩
    by_cases hk : kd = 2
    · subst hk
      cases r3
      · clear hall
        go_enter Try.func6, Try.ntmps6
        go_wp2_with fail
        clear s0 s1 s2 s3 s4 s5 s6 s7 k0 k1 k2 k3
        go_loopw [7, 8, 10] (fun v i ok9 wr => v = .int .i64 0 ∧ i = .int .i64 1 ∧ Hid (Zb w wr nm 2 ln jx jy h t m x y z u)) (fun _ _ _ _ => 0)
        case atStart => exact ⟨rfl, rfl, Z0⟩
        case round =>
          obtain ⟨rfl, rfl, ZK⟩ := hrel
          clear Z0
          obtain ⟨f0, f1, f2, f3, f4, f5, f6, f7, f8, f9, f10, f11, fB⟩ := ZK.out
          go_wp2_with fail
          clear f0 f1 f2 f3 f4 f5 f6 f7 f8 f9 f10 f11 fB
          refine (CD.out _).mono ?_
          rintro e w1 ⟨rfl, hb⟩
          have Z1 := Lib.hid (ZK.out.below hb)
          clear hb ZK
          obtain ⟨f0, f1, f2, f3, f4, f5, f6, f7, f8, f9, f10, f11, fB⟩ := Z1.out
          go_wp2_with fail
          clear f0 f1 f2 f3 f4 f5 f6 f7 f8 f9 f10 f11 fB
          refine (CB.out _).mono ?_
          rintro e w2 ⟨rfl, hb⟩
          have Z2 := Lib.hid (Z1.out.below hb)
          clear hb Z1
          obtain ⟨f0, f1, f2, f3, f4, f5, f6, f7, f8, f9, f10, f11, fB⟩ := Z2.out
          have BX := Lib.hid Z2.out.bel
          clear Z2
          go_wp2_with fail
          clear f0 f1 f2 f3 f4 f5 f6 f7 f8 f9 f10 f11 fB
          go_ret
          exact ⟨rfl, BX.out⟩
      · exact absurd rfl hall
    · have hk2 : (kd == 2) = false := by simp [hk]
      have hk3 : (kd != 2) = true := by simp [hk]
      clear hall CB
      go_enter Try.func6, Try.ntmps6
      go_wp2_with fail
      clear s0 s1 s2 s3 s4 s5 s6 s7 k0 k1 k2 k3
      go_loopw [7, 8, 10] (fun v i ok9 wr => v = .int .i64 0 ∧ i = .int .i64 1 ∧ Hid (Zb w wr nm kd ln jx jy h t m x y z u)) (fun _ _ _ _ => 0)
      case atStart => exact ⟨rfl, rfl, Z0⟩
      case round =>
        obtain ⟨rfl, rfl, ZK⟩ := hrel
        clear Z0
        obtain ⟨f0, f1, f2, f3, f4, f5, f6, f7, f8, f9, f10, f11, fB⟩ := ZK.out
        go_wp2_with fail
        clear f0 f1 f2 f3 f4 f5 f6 f7 f8 f9 f10 f11 fB
        refine (CD.out _).mono ?_
        rintro e w1 ⟨rfl, hb⟩
        have Z1 := Lib.hid (ZK.out.below hb)
        clear hb ZK
        obtain ⟨f0, f1, f2, f3, f4, f5, f6, f7, f8, f9, f10, f11, fB⟩ := Z1.out
        have BX := Lib.hid Z1.out.bel
        clear Z1
        go_wp2_with fail
        clear f0 f1 f2 f3 f4 f5 f6 f7 f8 f9 f10 f11 fB
        go_ret
        exact ⟨rfl, BX.out⟩
  · clear hall CB CD
    go_enter Try.func6, Try.ntmps6
    go_wp2_with fail
    clear s0 s1 s2 s3 s4 s5 s6 s7 k0 k1 k2 k3
    go_loopw [7, 8, 10] (fun v i ok9 wr => v = .int .i64 0 ∧ i = .int .i64 1 ∧ Hid (Zb w wr nm kd ln jx jy h t m x y z u)) (fun _ _ _ _ => 0)
    case atStart => exact ⟨rfl, rfl, Z0⟩
    case round =>
      obtain ⟨rfl, rfl, ZK⟩ := hrel
      clear Z0
      obtain ⟨f0, f1, f2, f3, f4, f5, f6, f7, f8, f9, f10, f11, fB⟩ := ZK.out
      have BX := Lib.hid ZK.out.bel
      clear ZK
      go_wp2_with fail
      clear f0 f1 f2 f3 f4 f5 f6 f7 f8 f9 f10 f11 fB
      go_ret
      exact ⟨rfl, BX.out⟩
end Go.Proofs.Ytejeikfgmiadhab.Lm10
