/- The greatest lift of a nozzle that keeps it dry, of the program. -/
import Derived.Test.YtejeikfgmiadhabQ1
import Derived.Test.YtejeikfgmiadhabQ2
import Derived.Deep.RegionHeld3
import Derived.StillTailTactics
namespace Go.Proofs.Ytejeikfgmiadhab.Ll10
open Go.RowKit Go.ChangeShapes Go.WideShapes Go.WideElems Go.Deep Go.Proofs.Ytejeikfgmiadhab.Mem Go.Proofs.Ytejeikfgmiadhab.Rw Go.Proofs.Ytejeikfgmiadhab.P2 Go.Proofs.Ytejeikfgmiadhab.Bk Go.Proofs.Ytejeikfgmiadhab.Jt Go.Proofs.Ytejeikfgmiadhab.Cm Go.Proofs.Ytejeikfgmiadhab.Cx Go.Proofs.Ytejeikfgmiadhab.Pl Go.Proofs.Ytejeikfgmiadhab.Hd Go.Proofs.Ytejeikfgmiadhab.Str
open Go.Proofs.Ytejeikfgmiadhab.Wz Go.Proofs.Ytejeikfgmiadhab.Fw10 Go.Proofs.Ytejeikfgmiadhab.Fa10
open Go.Proofs.Ytejeikfgmiadhab.Wr (rs)
open Go.Proofs.Ytejeikfgmiadhab.Pls (pls)
open Go.Proofs.Ytejeikfgmiadhab.Bo (boxA Q4 bq)
open Go.Proofs.Ytejeikfgmiadhab.Bxi (bx ib isBoxI)
open Go.Proofs.Ytejeikfgmiadhab.Ds (devB nozB)
set_option linter.unusedVariables false
set_option linter.unusedSimpArgs false


/-- Whether a limit is asked of a nozzle, with a rose and a basin. -/
noncomputable def llD (nm : ByteArray) (kd : Int) (ln : ByteArray) (jx jy h t m : Int) (ps : List (Int × Int)) (x y z u : Int) : Bool := devB nm kd ln jx jy h t m && decide (kd = 2) && rs ps && bx x y z u
/-- Whether a lift is wet. -/
def wetL (jx jy h t : Int) (ps : List (Int × Int)) (x y z u : Int) (n : Nat) : Option Nat := wetH jx jy h t ((n : Int) + 1) ps x y z u
def llN (jx jy h t : Int) (M : Nat) (ps : List (Int × Int)) (x y z u : Int) : Nat := match (List.range M).find? (fun n => (wetL jx jy h t ps x y z u n).isSome) with
  | some n => n
  | none => M
noncomputable def llV (nm : ByteArray) (kd : Int) (ln : ByteArray) (jx jy h t : Int) (m : Int) (ps : List (Int × Int)) (x y z u : Int) : Int := if llD nm kd ln jx jy h t m ps x y z u = true then (llN jx jy h t m.toNat ps x y z u : Int) else 0
theorem ll_at {jx jy h t : Int} {M k : Nat} {ps : List (Int × Int)} {x y z u : Int} {o : Nat} (hk : k < M) (hw : wetL jx jy h t ps x y z u k = some o) (hn : ∀ j, j < k → wetL jx jy h t ps x y z u j = none) : llN jx jy h t M ps x y z u = k := by
  unfold llN
  have e : (List.range M).find? (fun n => (wetL jx jy h t ps x y z u n).isSome) = some k := by
    rw [List.find?_range_eq_some]
    refine ⟨by rw [hw]; rfl, List.mem_range.2 hk, fun j hj => by rw [hn j hj]; rfl⟩
  rw [e]
theorem ll_all {jx jy h t : Int} {M : Nat} {ps : List (Int × Int)} {x y z u : Int} (hn : ∀ j, j < M → wetL jx jy h t ps x y z u j = none) : llN jx jy h t M ps x y z u = M := by
  unfold llN
  have e : (List.range M).find? (fun n => (wetL jx jy h t ps x y z u n).isSome) = none := by
    rw [List.find?_eq_none]
    intro j hj; rw [hn j (List.mem_range.1 hj)]; simp
  rw [e]
theorem noz_jet {nm ln : ByteArray} {jx jy h t m : Int} (hd : devB nm 2 ln jx jy h t m = true) : (0 ≤ m ∧ m ≤ 32) ∧ ∀ l : Int, 1 ≤ l → l ≤ 32 → jt jx jy h t l = true := by
  unfold devB at hd
  rw [Bool.and_eq_true] at hd
  have h2 := hd.2
  rw [if_neg (by decide), if_pos rfl] at h2
  unfold nozB at h2
  simp only [Bool.and_eq_true] at h2
  obtain ⟨_, hj, hm⟩ := h2
  have a := jt_iff.1 hj
  refine ⟨?_, fun l h1 h2 => jt_iff.2 ⟨a.1, a.2.1, a.2.2.1, a.2.2.2.1, by omega⟩⟩
  unfold iw at hm
  simpa [Bool.and_eq_true] using hm
set_option maxHeartbeats 1000000 in
theorem jetOf (nm : ByteArray) (kd : Int) (ln : ByteArray) (jx jy h t m l : Int) (w : World) : Calls Try.prog 22 #[Dd.va nm kd ln jx jy h t m, .int .i64 l] w fun e w' => e = .returned (jv jx jy h t l) ∧ Below w.heap.size w w' := by
  go_enter Try.func22, Try.ntmps22
  go_wp2
  go_returns
  exact ⟨rfl, by go_grown⟩

set_option maxRecDepth 100000 in
set_option maxHeartbeats 4000000 in
theorem llI (nm : ByteArray) (kd : Int) (ln : ByteArray) (jx jy h t m : Int) (A9 : Option Addr) (n9 c9 : Nat) (ps : List (Int × Int)) (x y z u : Int) (w : World) (hn9 : ps.length = n9) (hb9 : n9 ≤ 1048576) (hr9 : Rd w w.heap.size A9 (pls ps)) :
    Calls Try.prog 10 #[Dd.va nm kd ln jx jy h t m, .slice A9 n9 c9, .agg #[.int .i64 x, .int .i64 y, .int .i64 z, .int .i64 u]] w fun e w' => e = .returned (.int .i64 (llV nm kd ln jx jy h t m ps x y z u)) ∧ Below w.heap.size w w' := by
  have b0a := (Below.refl w.heap.size w).alloc (Nat.le_refl _) (.cells #[.string nm, .int .i64 kd, .string ln, .int .i64 jx, .int .i64 jy, .int .i64 h, .int .i64 t, .int .i64 m] 34)
  have hz1 : (w.alloc (.cells #[.string nm, .int .i64 kd, .string ln, .int .i64 jx, .int .i64 jy, .int .i64 h, .int .i64 t, .int .i64 m] 34)).heap.size = w.heap.size + 1 := by simp [go_sem]
  have B0 := Lib.hid (b0a.alloc b0a.size (.cells #[.int .i64 x, .int .i64 y, .int .i64 z, .int .i64 u] 39))
  have KS := Lib.hid ((Bk.new w #[.string nm, .int .i64 kd, .string ln, .int .i64 jx, .int .i64 jy, .int .i64 h, .int .i64 t, .int .i64 m] 34).alloc (o := .cells #[.int .i64 x, .int .i64 y, .int .i64 z, .int .i64 u] 39))
  have KB := Bk.new (w.alloc (.cells #[.string nm, .int .i64 kd, .string ln, .int .i64 jx, .int .i64 jy, .int .i64 h, .int .i64 t, .int .i64 m] 34)) #[.int .i64 x, .int .i64 y, .int .i64 z, .int .i64 u] 39
  rw [hz1] at KB
  have KB := Lib.hid KB
  obtain ⟨r1, h1⟩ : ∃ r, devB nm kd ln jx jy h t m = r := ⟨_, rfl⟩
  obtain ⟨r2, hp⟩ : ∃ r, rs ps = r := ⟨_, rfl⟩
  obtain ⟨r3, h3⟩ : ∃ r, bx x y z u = r := ⟨_, rfl⟩
  have CD := Lib.hid (fun (W : World) => (by have := Di.isDeviceI nm kd ln jx jy h t m W; rw [h1] at this; exact this : Calls Try.prog 18 #[Dd.va nm kd ln jx jy h t m] W fun e w' => e = .returned (.bool r1) ∧ Below W.heap.size W w'))
  have CR := Lib.hid (fun (W : World) (h9 : Below w.heap.size w W) => Wx.roseI (A := A9) (c := c9) (H := w.heap.size) hn9 hb9 hp W h9.size (hr9.below h9))
  have CB := Lib.hid (fun (W : World) => (by have := isBoxI x y z u W; rw [h3] at this; exact this : Calls Try.prog 20 #[.agg #[.int .i64 x, .int .i64 y, .int .i64 z, .int .i64 u]] W fun e w' => e = .returned (.bool r3) ∧ Below W.heap.size W w'))
  have S0 := KS
  have K0 := KB
  have hu : undef = Value.tuple #[] := rfl
  have s0 := KS.out.cell (i := 0) rfl
  have s1 := KS.out.cell (i := 1) rfl
  have s2 := KS.out.cell (i := 2) rfl
  have s3 := KS.out.cell (i := 3) rfl
  have s4 := KS.out.cell (i := 4) rfl
  have s5 := KS.out.cell (i := 5) rfl
  have s6 := KS.out.cell (i := 6) rfl
  have s7 := KS.out.cell (i := 7) rfl
  have k0 := KB.out.cell (i := 0) rfl
  have k1 := KB.out.cell (i := 1) rfl
  have k2 := KB.out.cell (i := 2) rfl
  have k3 := KB.out.cell (i := 3) rfl
  clear KS KB b0a hz1
  by_cases hall : (r1 && decide (kd = 2) && r2 && r3) = true
  · simp only [Bool.and_eq_true, decide_eq_true_eq] at hall
    obtain ⟨⟨⟨rfl, rfl⟩, rfl⟩, rfl⟩ := hall
    obtain ⟨⟨hm0, hm32⟩, hjt⟩ := noz_jet h1
    obtain ⟨M, rfl⟩ : ∃ M : Nat, m = (M : Int) := ⟨m.toNat, by omega⟩
    have hV : llV nm 2 ln jx jy h t (M : Int) ps x y z u = (llN jx jy h t M ps x y z u : Int) := by
      unfold llV llD; rw [h1, hp, h3, if_pos (by decide), Int.toNat_natCast]
    rw [hV]
    obtain ⟨L9, hL⟩ : ∃ n, llN jx jy h t M ps x y z u = n := ⟨_, rfl⟩
    rw [hL]
    have HL := Lib.hid hL
    have CW := Lib.hid (fun (k : Nat) (hk : k < M) (W : World) (h9 : Below w.heap.size w W) => (by have := wetHeading A9 n9 c9 ps x y z u (hjt ((k : Int) + 1) (by omega) (by omega)) hp h3 W hn9 hb9 ((hr9.below h9).more h9.size); exact this :
      Calls Try.prog 21 #[jv jx jy h t ((k : Int) + 1), .slice A9 n9 c9, .agg #[.int .i64 x, .int .i64 y, .int .i64 z, .int .i64 u]] W fun e w' => e = .returned (wetHV (wetL jx jy h t ps x y z u k)) ∧ Below W.heap.size W w'))
    have HM := Lib.hid hm32
    clear hV hL hm0 hm32 hjt hn9 hb9 hr9 h1 hp h3
    go_enter Try.func10, Try.ntmps10
    go_wp2_with fail
    refine (CD.out _).mono ?_
    rintro e w1 ⟨rfl, hb⟩
    have B1 := Lib.hid (B0.out.trans (hb.mono B0.out.size))
    have S1 := Lib.hid (S0.out.below hb)
    have K1 := Lib.hid (K0.out.below hb)
    clear hb B0 S0 K0 s0 s1 s2 s3 s4 s5 s6 s7 k0 k1 k2 k3
    have s0 := S1.out.cell (i := 0) rfl
    have s1 := S1.out.cell (i := 1) rfl
    have s2 := S1.out.cell (i := 2) rfl
    have s3 := S1.out.cell (i := 3) rfl
    have s4 := S1.out.cell (i := 4) rfl
    have s5 := S1.out.cell (i := 5) rfl
    have s6 := S1.out.cell (i := 6) rfl
    have s7 := S1.out.cell (i := 7) rfl
    have k0 := K1.out.cell (i := 0) rfl
    have k1 := K1.out.cell (i := 1) rfl
    have k2 := K1.out.cell (i := 2) rfl
    have k3 := K1.out.cell (i := 3) rfl
    go_wp2_with fail
    refine (CR.out _ B1.out).mono ?_
    rintro e w2 ⟨rfl, hb⟩
    have B2 := Lib.hid (B1.out.trans (hb.mono B1.out.size))
    have S2 := Lib.hid (S1.out.below hb)
    have K2 := Lib.hid (K1.out.below hb)
    clear hb B1 S1 K1 s0 s1 s2 s3 s4 s5 s6 s7 k0 k1 k2 k3
    have s0 := S2.out.cell (i := 0) rfl
    have s1 := S2.out.cell (i := 1) rfl
    have s2 := S2.out.cell (i := 2) rfl
    have s3 := S2.out.cell (i := 3) rfl
    have s4 := S2.out.cell (i := 4) rfl
    have s5 := S2.out.cell (i := 5) rfl
    have s6 := S2.out.cell (i := 6) rfl
    have s7 := S2.out.cell (i := 7) rfl
    have k0 := K2.out.cell (i := 0) rfl
    have k1 := K2.out.cell (i := 1) rfl
    have k2 := K2.out.cell (i := 2) rfl
    have k3 := K2.out.cell (i := 3) rfl
    go_wp2_with fail
    refine (CB.out _).mono ?_
    rintro e w3 ⟨rfl, hb⟩
    have B3 := Lib.hid (B2.out.trans (hb.mono B2.out.size))
    have S3 := Lib.hid (S2.out.below hb)
    have K3 := Lib.hid (K2.out.below hb)
    clear hb B2 S2 K2 s0 s1 s2 s3 s4 s5 s6 s7 k0 k1 k2 k3
    have s0 := S3.out.cell (i := 0) rfl
    have s1 := S3.out.cell (i := 1) rfl
    have s2 := S3.out.cell (i := 2) rfl
    have s3 := S3.out.cell (i := 3) rfl
    have s4 := S3.out.cell (i := 4) rfl
    have s5 := S3.out.cell (i := 5) rfl
    have s6 := S3.out.cell (i := 6) rfl
    have s7 := S3.out.cell (i := 7) rfl
    have k0 := K3.out.cell (i := 0) rfl
    have k1 := K3.out.cell (i := 1) rfl
    have k2 := K3.out.cell (i := 2) rfl
    have k3 := K3.out.cell (i := 3) rfl
    have Z3 := Lib.hid (show w3.cell? ⟨w.heap.size, 0, none⟩ = some (.string nm) ∧ w3.cell? ⟨w.heap.size, 1, none⟩ = some (.int .i64 2) ∧ w3.cell? ⟨w.heap.size, 2, none⟩ = some (.string ln) ∧ w3.cell? ⟨w.heap.size, 3, none⟩ = some (.int .i64 jx) ∧ w3.cell? ⟨w.heap.size, 4, none⟩ = some (.int .i64 jy) ∧ w3.cell? ⟨w.heap.size, 5, none⟩ = some (.int .i64 h) ∧ w3.cell? ⟨w.heap.size, 6, none⟩ = some (.int .i64 t) ∧ w3.cell? ⟨w.heap.size, 7, none⟩ = some (.int .i64 (M : Int)) ∧ w3.cell? ⟨w.heap.size + 1, 0, none⟩ = some (.int .i64 x) ∧ w3.cell? ⟨w.heap.size + 1, 1, none⟩ = some (.int .i64 y) ∧ w3.cell? ⟨w.heap.size + 1, 2, none⟩ = some (.int .i64 z) ∧ w3.cell? ⟨w.heap.size + 1, 3, none⟩ = some (.int .i64 u) ∧ Below w.heap.size w w3 from ⟨s0, s1, s2, s3, s4, s5, s6, s7, k0, k1, k2, k3, B3.out⟩)
    clear B3 S3 K3
    go_wp2_with fail
    clear s0 s1 s2 s3 s4 s5 s6 s7 k0 k1 k2 k3
    go_loopw [7, 8, 9, 30] (fun a7 a8 a9 i wr => ∃ k : Nat, k ≤ M ∧ i = .int .i64 k ∧ Hid (∀ j, j < k → wetL jx jy h t ps x y z u j = none) ∧ Hid (wr.cell? ⟨w.heap.size, 0, none⟩ = some (.string nm) ∧ wr.cell? ⟨w.heap.size, 1, none⟩ = some (.int .i64 2) ∧ wr.cell? ⟨w.heap.size, 2, none⟩ = some (.string ln) ∧ wr.cell? ⟨w.heap.size, 3, none⟩ = some (.int .i64 jx) ∧ wr.cell? ⟨w.heap.size, 4, none⟩ = some (.int .i64 jy) ∧ wr.cell? ⟨w.heap.size, 5, none⟩ = some (.int .i64 h) ∧ wr.cell? ⟨w.heap.size, 6, none⟩ = some (.int .i64 t) ∧ wr.cell? ⟨w.heap.size, 7, none⟩ = some (.int .i64 (M : Int)) ∧ wr.cell? ⟨w.heap.size + 1, 0, none⟩ = some (.int .i64 x) ∧ wr.cell? ⟨w.heap.size + 1, 1, none⟩ = some (.int .i64 y) ∧ wr.cell? ⟨w.heap.size + 1, 2, none⟩ = some (.int .i64 z) ∧ wr.cell? ⟨w.heap.size + 1, 3, none⟩ = some (.int .i64 u) ∧ Below w.heap.size w wr)) (fun _ _ _ i _ => M - (intOf i).toNat)
    case atStart => exact ⟨0, Nat.zero_le _, rfl, Lib.hid (fun j hj => by omega), Z3⟩
    case round =>
      obtain ⟨k, hk, rfl, NK, ZK⟩ := hrel
      clear Z3
      obtain ⟨f0, f1, f2, f3, f4, f5, f6, f7, f8, f9, f10, f11, fB⟩ := ZK.out
      have hm32 := HM.out
      by_cases hlt : k < M
      · have CW1 := Lib.hid (CW.out k hlt)
        have CJ := Lib.hid (fun (W : World) => jetOf nm 2 ln jx jy h t (M : Int) ((k : Int) + 1) W)
        have w1 : IntKind.i64.wrap ((k : Int) + 1) = (k : Int) + 1 := IntWalk.i64_in _ (by omega)
        have w2 : wrap64 ((k : Int) + 1) = (k : Int) + 1 := IntWalk.wrap64_in _ (by omega)
        obtain ⟨o, ho⟩ : ∃ o, wetL jx jy h t ps x y z u k = o := ⟨_, rfl⟩
        have HO := Lib.hid ho
        rw [ho] at CW1
        clear ho ZK
        cases o
        · have CW9 := Lib.hid (show ∀ (W : World) (h9 : Below w.heap.size w W), Calls Try.prog 21 #[jv jx jy h t ((k : Int) + 1), .slice A9 n9 c9, .agg #[.int .i64 x, .int .i64 y, .int .i64 z, .int .i64 u]] W (fun e w' => e = .returned (.tuple #[.int .i64 0, .bool false]) ∧ Below W.heap.size W w') from CW1.out)
          clear CW1
          go_upto_region 6 with fail
          refine wp_region_noPanic ?_
          refine wp_region_held_drew (S := (fun w' => w'.cell? ⟨w.heap.size, 0, none⟩ = some (.string nm) ∧ w'.cell? ⟨w.heap.size, 1, none⟩ = some (.int .i64 2) ∧ w'.cell? ⟨w.heap.size, 2, none⟩ = some (.string ln) ∧ w'.cell? ⟨w.heap.size, 3, none⟩ = some (.int .i64 jx) ∧ w'.cell? ⟨w.heap.size, 4, none⟩ = some (.int .i64 jy) ∧ w'.cell? ⟨w.heap.size, 5, none⟩ = some (.int .i64 h) ∧ w'.cell? ⟨w.heap.size, 6, none⟩ = some (.int .i64 t) ∧ w'.cell? ⟨w.heap.size, 7, none⟩ = some (.int .i64 (M : Int)) ∧ w'.cell? ⟨w.heap.size + 1, 0, none⟩ = some (.int .i64 x) ∧ w'.cell? ⟨w.heap.size + 1, 1, none⟩ = some (.int .i64 y) ∧ w'.cell? ⟨w.heap.size + 1, 2, none⟩ = some (.int .i64 z) ∧ w'.cell? ⟨w.heap.size + 1, 3, none⟩ = some (.int .i64 u) ∧ Below w.heap.size w w')) (by kernel_rfl) ?_ (fun hH => ?_)
          · exact ⟨f0, f1, f2, f3, f4, f5, f6, f7, f8, f9, f10, f11, fB.drew⟩
          refine wpAnyH_take (i := 0) (oi := { dst := some 34, op := _, type := _, pos := _, after := _, guard := _ }) (v := ?_) rfl (by kernel_rfl) (by kernel_rfl) (by kernel_rfl) (fun _ _ _ h => h) (Or.inl ⟨by rfl, ?_⟩) hH ?_
          rotate_left 1
          · intro W hSw
            (try dsimp only at hSw)
            go_simp
            (try with_reducible rfl)
          try simp only [Act.put, List.setIfInBounds_toArray, List.set_cons_zero, List.set_cons_succ]
          refine wpAnyH_take (i := 1) (oi := { dst := some 35, op := _, type := _, pos := _, after := _, guard := _ }) (v := ?_) rfl (by kernel_rfl) (by kernel_rfl) (by kernel_rfl) (fun _ _ _ h => h) (Or.inl ⟨by rfl, ?_⟩) hH ?_
          rotate_left 1
          · intro W hSw
            (try dsimp only at hSw)
            go_simp
            (try with_reducible rfl)
          try simp only [Act.put, List.setIfInBounds_toArray, List.set_cons_zero, List.set_cons_succ]
          refine wpAnyH_take (i := 2) (oi := { dst := some 36, op := _, type := _, pos := _, after := _, guard := _ }) (v := ?_) rfl (by kernel_rfl) (by kernel_rfl) (by kernel_rfl) (fun _ _ _ h => h) (Or.inl ⟨by rfl, ?_⟩) hH ?_
          rotate_left 1
          · intro W hSw
            (try dsimp only at hSw)
            go_simp
            (try with_reducible rfl)
          try simp only [Act.put, List.setIfInBounds_toArray, List.set_cons_zero, List.set_cons_succ]
          refine wpAnyH_take (i := 4) (oi := { dst := some 38, op := _, type := _, pos := _, after := _, guard := _ }) (v := ?_) rfl (by kernel_rfl) (by kernel_rfl) (by kernel_rfl) (fun _ _ _ h => h) (Or.inl ⟨by rfl, ?_⟩) hH ?_
          rotate_left 1
          · intro W hSw
            (try dsimp only at hSw)
            go_simp
            (try with_reducible rfl)
          try simp only [Act.put, List.setIfInBounds_toArray, List.set_cons_zero, List.set_cons_succ]
          refine wpAnyH_take (i := 5) (oi := { dst := some 39, op := _, type := _, pos := _, after := _, guard := _ }) (v := ?_) rfl (by kernel_rfl) (by kernel_rfl) (by kernel_rfl) (fun _ _ _ h => h) (Or.inl ⟨by rfl, ?_⟩) hH ?_
          rotate_left 1
          · intro W hSw
            (try dsimp only at hSw)
            go_simp
            (try with_reducible rfl)
          try simp only [Act.put, List.setIfInBounds_toArray, List.set_cons_zero, List.set_cons_succ]
          refine wpAnyH_ready (rs := [3]) (by kernel_rfl) (by simp) (AllReadyH.cons rfl (fun K hK => ?_) AllReadyH.nil)
          go_simp
          go_at_call 22; ((with_reducible refine (CJ.out _).mono ?_); rintro e9 r1 ⟨rfl, hb1⟩); go_wp2_with fail
          refine hK.out _ _ ?_ (fun hG => ?_)
          · exact ⟨cell_below hb1 hH.1, cell_below hb1 hH.2.1, cell_below hb1 hH.2.2.1, cell_below hb1 hH.2.2.2.1, cell_below hb1 hH.2.2.2.2.1, cell_below hb1 hH.2.2.2.2.2.1, cell_below hb1 hH.2.2.2.2.2.2.1, cell_below hb1 hH.2.2.2.2.2.2.2.1, cell_below hb1 hH.2.2.2.2.2.2.2.2.1, cell_below hb1 hH.2.2.2.2.2.2.2.2.2.1, cell_below hb1 hH.2.2.2.2.2.2.2.2.2.2.1, cell_below hb1 hH.2.2.2.2.2.2.2.2.2.2.2.1, hH.2.2.2.2.2.2.2.2.2.2.2.2.trans (hb1.mono hH.2.2.2.2.2.2.2.2.2.2.2.2.size)⟩
          replace hH := hG
          clear hK K hG
          try simp only [Act.put, List.setIfInBounds_toArray, List.set_cons_zero, List.set_cons_succ]
          refine wpAnyH_ready (rs := [6]) (by kernel_rfl) (by simp) (AllReadyH.cons rfl (fun K hK => ?_) AllReadyH.nil)
          go_simp
          go_at_call 21; ((with_reducible refine (CW9.out _ hH.2.2.2.2.2.2.2.2.2.2.2.2).mono ?_); rintro e9 r2 ⟨rfl, hb2⟩); go_wp2_with fail
          refine hK.out _ _ ?_ (fun hG => ?_)
          · exact ⟨cell_below hb2 hH.1, cell_below hb2 hH.2.1, cell_below hb2 hH.2.2.1, cell_below hb2 hH.2.2.2.1, cell_below hb2 hH.2.2.2.2.1, cell_below hb2 hH.2.2.2.2.2.1, cell_below hb2 hH.2.2.2.2.2.2.1, cell_below hb2 hH.2.2.2.2.2.2.2.1, cell_below hb2 hH.2.2.2.2.2.2.2.2.1, cell_below hb2 hH.2.2.2.2.2.2.2.2.2.1, cell_below hb2 hH.2.2.2.2.2.2.2.2.2.2.1, cell_below hb2 hH.2.2.2.2.2.2.2.2.2.2.2.1, hH.2.2.2.2.2.2.2.2.2.2.2.2.trans (hb2.mono hH.2.2.2.2.2.2.2.2.2.2.2.2.size)⟩
          replace hH := hG
          clear hK K hG
          try simp only [Act.put, List.setIfInBounds_toArray, List.set_cons_zero, List.set_cons_succ]
          refine wpAnyH_take (i := 7) (oi := { dst := some 33, op := _, type := _, pos := _, after := _, guard := _ }) (v := ?_) rfl (by kernel_rfl) (by kernel_rfl) (by kernel_rfl) (fun _ _ _ h => h) (Or.inl ⟨by rfl, ?_⟩) hH ?_
          rotate_left 1
          · intro W hSw
            (try dsimp only at hSw)
            go_simp
            (try with_reducible rfl)
          try simp only [Act.put, List.setIfInBounds_toArray, List.set_cons_zero, List.set_cons_succ]
          refine wpAnyH_take (i := 8) (oi := { dst := some 41, op := _, type := _, pos := _, after := _, guard := _ }) (v := ?_) rfl (by kernel_rfl) (by kernel_rfl) (by kernel_rfl) (fun _ _ _ h => h) (Or.inl ⟨by rfl, ?_⟩) hH ?_
          rotate_left 1
          · intro W hSw
            (try dsimp only at hSw)
            go_simp
            (try with_reducible rfl)
          try simp only [Act.put, List.setIfInBounds_toArray, List.set_cons_zero, List.set_cons_succ]
          refine wpAnyH_take (i := 9) (oi := { dst := some 42, op := _, type := _, pos := _, after := _, guard := _ }) (v := ?_) rfl (by kernel_rfl) (by kernel_rfl) (by kernel_rfl) (fun _ _ _ h => h) (Or.inl ⟨by rfl, ?_⟩) hH ?_
          rotate_left 1
          · intro W hSw
            (try dsimp only at hSw)
            go_simp
            (try with_reducible rfl)
          try simp only [Act.put, List.setIfInBounds_toArray, List.set_cons_zero, List.set_cons_succ]
          refine wpAnyH_take (i := 10) (oi := { dst := some 8, op := _, type := _, pos := _, after := _, guard := _ }) (v := ?_) rfl (by kernel_rfl) (by kernel_rfl) (by kernel_rfl) (fun _ _ _ h => h) (Or.inl ⟨by rfl, ?_⟩) hH ?_
          rotate_left 1
          · intro W hSw
            (try dsimp only at hSw)
            go_simp
            (try with_reducible rfl)
          try simp only [Act.put, List.setIfInBounds_toArray, List.set_cons_zero, List.set_cons_succ]
          refine wpAnyH_take (i := 11) (oi := { dst := some 9, op := _, type := _, pos := _, after := _, guard := _ }) (v := ?_) rfl (by kernel_rfl) (by kernel_rfl) (by kernel_rfl) (fun _ _ _ h => h) (Or.inl ⟨by rfl, ?_⟩) hH ?_
          rotate_left 1
          · intro W hSw
            (try dsimp only at hSw)
            go_simp
            (try with_reducible rfl)
          try simp only [Act.put, List.setIfInBounds_toArray, List.set_cons_zero, List.set_cons_succ]
          refine wpAnyH_done (by kernel_rfl) ?_ _
          refine NoPanic.normal ?_
          have HN := Lib.hid hH
          have NN := Lib.hid (show ∀ j, j < k + 1 → wetL jx jy h t ps x y z u j = none from fun j hj => by
            by_cases e : j = k
            · rw [e]; exact HO.out
            · exact NK.out j (by omega))
          clear hH hb1 hb2 f0 f1 f2 f3 f4 f5 f6 f7 f8 f9 f10 f11 fB
          go_wp2_with fail
          go_roundw
          case rel => exact ⟨k + 1, by omega, by go_num, NN, HN⟩
          case measure => simp [intOf]; omega
        · rename_i hh
          have CW9 := Lib.hid (show ∀ (W : World) (h9 : Below w.heap.size w W), Calls Try.prog 21 #[jv jx jy h t ((k : Int) + 1), .slice A9 n9 c9, .agg #[.int .i64 x, .int .i64 y, .int .i64 z, .int .i64 u]] W (fun e w' => e = .returned (.tuple #[.int .i64 (hh : Int), .bool true]) ∧ Below W.heap.size W w') from CW1.out)
          have HE := Lib.hid (HL.out.symm.trans (ll_at hlt HO.out NK.out))
          clear CW1
          go_upto_region 6 with fail
          refine wp_region_noPanic ?_
          refine wp_region_held_drew (S := (fun w' => w'.cell? ⟨w.heap.size, 0, none⟩ = some (.string nm) ∧ w'.cell? ⟨w.heap.size, 1, none⟩ = some (.int .i64 2) ∧ w'.cell? ⟨w.heap.size, 2, none⟩ = some (.string ln) ∧ w'.cell? ⟨w.heap.size, 3, none⟩ = some (.int .i64 jx) ∧ w'.cell? ⟨w.heap.size, 4, none⟩ = some (.int .i64 jy) ∧ w'.cell? ⟨w.heap.size, 5, none⟩ = some (.int .i64 h) ∧ w'.cell? ⟨w.heap.size, 6, none⟩ = some (.int .i64 t) ∧ w'.cell? ⟨w.heap.size, 7, none⟩ = some (.int .i64 (M : Int)) ∧ w'.cell? ⟨w.heap.size + 1, 0, none⟩ = some (.int .i64 x) ∧ w'.cell? ⟨w.heap.size + 1, 1, none⟩ = some (.int .i64 y) ∧ w'.cell? ⟨w.heap.size + 1, 2, none⟩ = some (.int .i64 z) ∧ w'.cell? ⟨w.heap.size + 1, 3, none⟩ = some (.int .i64 u) ∧ Below w.heap.size w w')) (by kernel_rfl) ?_ (fun hH => ?_)
          · exact ⟨f0, f1, f2, f3, f4, f5, f6, f7, f8, f9, f10, f11, fB.drew⟩
          refine wpAnyH_take (i := 0) (oi := { dst := some 34, op := _, type := _, pos := _, after := _, guard := _ }) (v := ?_) rfl (by kernel_rfl) (by kernel_rfl) (by kernel_rfl) (fun _ _ _ h => h) (Or.inl ⟨by rfl, ?_⟩) hH ?_
          rotate_left 1
          · intro W hSw
            (try dsimp only at hSw)
            go_simp
            (try with_reducible rfl)
          try simp only [Act.put, List.setIfInBounds_toArray, List.set_cons_zero, List.set_cons_succ]
          refine wpAnyH_take (i := 1) (oi := { dst := some 35, op := _, type := _, pos := _, after := _, guard := _ }) (v := ?_) rfl (by kernel_rfl) (by kernel_rfl) (by kernel_rfl) (fun _ _ _ h => h) (Or.inl ⟨by rfl, ?_⟩) hH ?_
          rotate_left 1
          · intro W hSw
            (try dsimp only at hSw)
            go_simp
            (try with_reducible rfl)
          try simp only [Act.put, List.setIfInBounds_toArray, List.set_cons_zero, List.set_cons_succ]
          refine wpAnyH_take (i := 2) (oi := { dst := some 36, op := _, type := _, pos := _, after := _, guard := _ }) (v := ?_) rfl (by kernel_rfl) (by kernel_rfl) (by kernel_rfl) (fun _ _ _ h => h) (Or.inl ⟨by rfl, ?_⟩) hH ?_
          rotate_left 1
          · intro W hSw
            (try dsimp only at hSw)
            go_simp
            (try with_reducible rfl)
          try simp only [Act.put, List.setIfInBounds_toArray, List.set_cons_zero, List.set_cons_succ]
          refine wpAnyH_take (i := 4) (oi := { dst := some 38, op := _, type := _, pos := _, after := _, guard := _ }) (v := ?_) rfl (by kernel_rfl) (by kernel_rfl) (by kernel_rfl) (fun _ _ _ h => h) (Or.inl ⟨by rfl, ?_⟩) hH ?_
          rotate_left 1
          · intro W hSw
            (try dsimp only at hSw)
            go_simp
            (try with_reducible rfl)
          try simp only [Act.put, List.setIfInBounds_toArray, List.set_cons_zero, List.set_cons_succ]
          refine wpAnyH_take (i := 5) (oi := { dst := some 39, op := _, type := _, pos := _, after := _, guard := _ }) (v := ?_) rfl (by kernel_rfl) (by kernel_rfl) (by kernel_rfl) (fun _ _ _ h => h) (Or.inl ⟨by rfl, ?_⟩) hH ?_
          rotate_left 1
          · intro W hSw
            (try dsimp only at hSw)
            go_simp
            (try with_reducible rfl)
          try simp only [Act.put, List.setIfInBounds_toArray, List.set_cons_zero, List.set_cons_succ]
          refine wpAnyH_ready (rs := [3]) (by kernel_rfl) (by simp) (AllReadyH.cons rfl (fun K hK => ?_) AllReadyH.nil)
          go_simp
          go_at_call 22; ((with_reducible refine (CJ.out _).mono ?_); rintro e9 r1 ⟨rfl, hb1⟩); go_wp2_with fail
          refine hK.out _ _ ?_ (fun hG => ?_)
          · exact ⟨cell_below hb1 hH.1, cell_below hb1 hH.2.1, cell_below hb1 hH.2.2.1, cell_below hb1 hH.2.2.2.1, cell_below hb1 hH.2.2.2.2.1, cell_below hb1 hH.2.2.2.2.2.1, cell_below hb1 hH.2.2.2.2.2.2.1, cell_below hb1 hH.2.2.2.2.2.2.2.1, cell_below hb1 hH.2.2.2.2.2.2.2.2.1, cell_below hb1 hH.2.2.2.2.2.2.2.2.2.1, cell_below hb1 hH.2.2.2.2.2.2.2.2.2.2.1, cell_below hb1 hH.2.2.2.2.2.2.2.2.2.2.2.1, hH.2.2.2.2.2.2.2.2.2.2.2.2.trans (hb1.mono hH.2.2.2.2.2.2.2.2.2.2.2.2.size)⟩
          replace hH := hG
          clear hK K hG
          try simp only [Act.put, List.setIfInBounds_toArray, List.set_cons_zero, List.set_cons_succ]
          refine wpAnyH_ready (rs := [6]) (by kernel_rfl) (by simp) (AllReadyH.cons rfl (fun K hK => ?_) AllReadyH.nil)
          go_simp
          go_at_call 21; ((with_reducible refine (CW9.out _ hH.2.2.2.2.2.2.2.2.2.2.2.2).mono ?_); rintro e9 r2 ⟨rfl, hb2⟩); go_wp2_with fail
          refine hK.out _ _ ?_ (fun hG => ?_)
          · exact ⟨cell_below hb2 hH.1, cell_below hb2 hH.2.1, cell_below hb2 hH.2.2.1, cell_below hb2 hH.2.2.2.1, cell_below hb2 hH.2.2.2.2.1, cell_below hb2 hH.2.2.2.2.2.1, cell_below hb2 hH.2.2.2.2.2.2.1, cell_below hb2 hH.2.2.2.2.2.2.2.1, cell_below hb2 hH.2.2.2.2.2.2.2.2.1, cell_below hb2 hH.2.2.2.2.2.2.2.2.2.1, cell_below hb2 hH.2.2.2.2.2.2.2.2.2.2.1, cell_below hb2 hH.2.2.2.2.2.2.2.2.2.2.2.1, hH.2.2.2.2.2.2.2.2.2.2.2.2.trans (hb2.mono hH.2.2.2.2.2.2.2.2.2.2.2.2.size)⟩
          replace hH := hG
          clear hK K hG
          try simp only [Act.put, List.setIfInBounds_toArray, List.set_cons_zero, List.set_cons_succ]
          refine wpAnyH_take (i := 7) (oi := { dst := some 33, op := _, type := _, pos := _, after := _, guard := _ }) (v := ?_) rfl (by kernel_rfl) (by kernel_rfl) (by kernel_rfl) (fun _ _ _ h => h) (Or.inl ⟨by rfl, ?_⟩) hH ?_
          rotate_left 1
          · intro W hSw
            (try dsimp only at hSw)
            go_simp
            (try with_reducible rfl)
          try simp only [Act.put, List.setIfInBounds_toArray, List.set_cons_zero, List.set_cons_succ]
          refine wpAnyH_take (i := 8) (oi := { dst := some 41, op := _, type := _, pos := _, after := _, guard := _ }) (v := ?_) rfl (by kernel_rfl) (by kernel_rfl) (by kernel_rfl) (fun _ _ _ h => h) (Or.inl ⟨by rfl, ?_⟩) hH ?_
          rotate_left 1
          · intro W hSw
            (try dsimp only at hSw)
            go_simp
            (try with_reducible rfl)
          try simp only [Act.put, List.setIfInBounds_toArray, List.set_cons_zero, List.set_cons_succ]
          refine wpAnyH_take (i := 9) (oi := { dst := some 42, op := _, type := _, pos := _, after := _, guard := _ }) (v := ?_) rfl (by kernel_rfl) (by kernel_rfl) (by kernel_rfl) (fun _ _ _ h => h) (Or.inl ⟨by rfl, ?_⟩) hH ?_
          rotate_left 1
          · intro W hSw
            (try dsimp only at hSw)
            go_simp
            (try with_reducible rfl)
          try simp only [Act.put, List.setIfInBounds_toArray, List.set_cons_zero, List.set_cons_succ]
          refine wpAnyH_take (i := 10) (oi := { dst := some 8, op := _, type := _, pos := _, after := _, guard := _ }) (v := ?_) rfl (by kernel_rfl) (by kernel_rfl) (by kernel_rfl) (fun _ _ _ h => h) (Or.inl ⟨by rfl, ?_⟩) hH ?_
          rotate_left 1
          · intro W hSw
            (try dsimp only at hSw)
            go_simp
            (try with_reducible rfl)
          try simp only [Act.put, List.setIfInBounds_toArray, List.set_cons_zero, List.set_cons_succ]
          refine wpAnyH_take (i := 11) (oi := { dst := some 9, op := _, type := _, pos := _, after := _, guard := _ }) (v := ?_) rfl (by kernel_rfl) (by kernel_rfl) (by kernel_rfl) (fun _ _ _ h => h) (Or.inl ⟨by rfl, ?_⟩) hH ?_
          rotate_left 1
          · intro W hSw
            (try dsimp only at hSw)
            go_simp
            (try with_reducible rfl)
          try simp only [Act.put, List.setIfInBounds_toArray, List.set_cons_zero, List.set_cons_succ]
          refine wpAnyH_done (by kernel_rfl) ?_ _
          refine NoPanic.normal ?_
          have BX := Lib.hid hH.2.2.2.2.2.2.2.2.2.2.2.2
          clear hH hb1 hb2 f0 f1 f2 f3 f4 f5 f6 f7 f8 f9 f10 f11 fB
          go_wp2_with fail
          go_ret
          exact ⟨by rw [HE.out]; rfl, BX.out⟩
      · obtain rfl : M = k := by omega
        have HE := Lib.hid (HL.out.symm.trans (ll_all NK.out))
        have BX := Lib.hid fB
        clear ZK fB
        go_wp2_with fail
        go_ret
        exact ⟨by rw [HE.out]; rfl, BX.out⟩
  have hV : llV nm kd ln jx jy h t m ps x y z u = 0 := by unfold llV llD; rw [h1, hp, h3, if_neg hall]
  rw [hV]
  clear hV hn9 hb9 hr9 h1 hp h3
  cases r1
  · clear hall CR CB
    go_enter Try.func10, Try.ntmps10
    go_wp2_with fail
    refine (CD.out _).mono ?_
    rintro e w1 ⟨rfl, hb⟩
    have B1 := Lib.hid (B0.out.trans (hb.mono B0.out.size))
    have S1 := Lib.hid (S0.out.below hb)
    have K1 := Lib.hid (K0.out.below hb)
    clear hb B0 S0 K0 s0 s1 s2 s3 s4 s5 s6 s7 k0 k1 k2 k3
    have s0 := S1.out.cell (i := 0) rfl
    have s1 := S1.out.cell (i := 1) rfl
    have s2 := S1.out.cell (i := 2) rfl
    have s3 := S1.out.cell (i := 3) rfl
    have s4 := S1.out.cell (i := 4) rfl
    have s5 := S1.out.cell (i := 5) rfl
    have s6 := S1.out.cell (i := 6) rfl
    have s7 := S1.out.cell (i := 7) rfl
    have k0 := K1.out.cell (i := 0) rfl
    have k1 := K1.out.cell (i := 1) rfl
    have k2 := K1.out.cell (i := 2) rfl
    have k3 := K1.out.cell (i := 3) rfl
    go_wp2_with fail
    go_ret
    exact ⟨rfl, B1.out⟩
  by_cases hk : kd = 2
  · subst hk
    cases r2
    · clear hall CB
      go_enter Try.func10, Try.ntmps10
      go_wp2_with fail
      refine (CD.out _).mono ?_
      rintro e w1 ⟨rfl, hb⟩
      have B1 := Lib.hid (B0.out.trans (hb.mono B0.out.size))
      have S1 := Lib.hid (S0.out.below hb)
      have K1 := Lib.hid (K0.out.below hb)
      clear hb B0 S0 K0 s0 s1 s2 s3 s4 s5 s6 s7 k0 k1 k2 k3
      have s0 := S1.out.cell (i := 0) rfl
      have s1 := S1.out.cell (i := 1) rfl
      have s2 := S1.out.cell (i := 2) rfl
      have s3 := S1.out.cell (i := 3) rfl
      have s4 := S1.out.cell (i := 4) rfl
      have s5 := S1.out.cell (i := 5) rfl
      have s6 := S1.out.cell (i := 6) rfl
      have s7 := S1.out.cell (i := 7) rfl
      have k0 := K1.out.cell (i := 0) rfl
      have k1 := K1.out.cell (i := 1) rfl
      have k2 := K1.out.cell (i := 2) rfl
      have k3 := K1.out.cell (i := 3) rfl
      go_wp2_with fail
      refine (CR.out _ B1.out).mono ?_
      rintro e w2 ⟨rfl, hb⟩
      have B2 := Lib.hid (B1.out.trans (hb.mono B1.out.size))
      have S2 := Lib.hid (S1.out.below hb)
      have K2 := Lib.hid (K1.out.below hb)
      clear hb B1 S1 K1 s0 s1 s2 s3 s4 s5 s6 s7 k0 k1 k2 k3
      have s0 := S2.out.cell (i := 0) rfl
      have s1 := S2.out.cell (i := 1) rfl
      have s2 := S2.out.cell (i := 2) rfl
      have s3 := S2.out.cell (i := 3) rfl
      have s4 := S2.out.cell (i := 4) rfl
      have s5 := S2.out.cell (i := 5) rfl
      have s6 := S2.out.cell (i := 6) rfl
      have s7 := S2.out.cell (i := 7) rfl
      have k0 := K2.out.cell (i := 0) rfl
      have k1 := K2.out.cell (i := 1) rfl
      have k2 := K2.out.cell (i := 2) rfl
      have k3 := K2.out.cell (i := 3) rfl
      go_wp2_with fail
      go_ret
      exact ⟨rfl, B2.out⟩
    cases r3
    · clear hall
      go_enter Try.func10, Try.ntmps10
      go_wp2_with fail
      refine (CD.out _).mono ?_
      rintro e w1 ⟨rfl, hb⟩
      have B1 := Lib.hid (B0.out.trans (hb.mono B0.out.size))
      have S1 := Lib.hid (S0.out.below hb)
      have K1 := Lib.hid (K0.out.below hb)
      clear hb B0 S0 K0 s0 s1 s2 s3 s4 s5 s6 s7 k0 k1 k2 k3
      have s0 := S1.out.cell (i := 0) rfl
      have s1 := S1.out.cell (i := 1) rfl
      have s2 := S1.out.cell (i := 2) rfl
      have s3 := S1.out.cell (i := 3) rfl
      have s4 := S1.out.cell (i := 4) rfl
      have s5 := S1.out.cell (i := 5) rfl
      have s6 := S1.out.cell (i := 6) rfl
      have s7 := S1.out.cell (i := 7) rfl
      have k0 := K1.out.cell (i := 0) rfl
      have k1 := K1.out.cell (i := 1) rfl
      have k2 := K1.out.cell (i := 2) rfl
      have k3 := K1.out.cell (i := 3) rfl
      go_wp2_with fail
      refine (CR.out _ B1.out).mono ?_
      rintro e w2 ⟨rfl, hb⟩
      have B2 := Lib.hid (B1.out.trans (hb.mono B1.out.size))
      have S2 := Lib.hid (S1.out.below hb)
      have K2 := Lib.hid (K1.out.below hb)
      clear hb B1 S1 K1 s0 s1 s2 s3 s4 s5 s6 s7 k0 k1 k2 k3
      have s0 := S2.out.cell (i := 0) rfl
      have s1 := S2.out.cell (i := 1) rfl
      have s2 := S2.out.cell (i := 2) rfl
      have s3 := S2.out.cell (i := 3) rfl
      have s4 := S2.out.cell (i := 4) rfl
      have s5 := S2.out.cell (i := 5) rfl
      have s6 := S2.out.cell (i := 6) rfl
      have s7 := S2.out.cell (i := 7) rfl
      have k0 := K2.out.cell (i := 0) rfl
      have k1 := K2.out.cell (i := 1) rfl
      have k2 := K2.out.cell (i := 2) rfl
      have k3 := K2.out.cell (i := 3) rfl
      go_wp2_with fail
      refine (CB.out _).mono ?_
      rintro e w3 ⟨rfl, hb⟩
      have B3 := Lib.hid (B2.out.trans (hb.mono B2.out.size))
      have S3 := Lib.hid (S2.out.below hb)
      have K3 := Lib.hid (K2.out.below hb)
      clear hb B2 S2 K2 s0 s1 s2 s3 s4 s5 s6 s7 k0 k1 k2 k3
      have s0 := S3.out.cell (i := 0) rfl
      have s1 := S3.out.cell (i := 1) rfl
      have s2 := S3.out.cell (i := 2) rfl
      have s3 := S3.out.cell (i := 3) rfl
      have s4 := S3.out.cell (i := 4) rfl
      have s5 := S3.out.cell (i := 5) rfl
      have s6 := S3.out.cell (i := 6) rfl
      have s7 := S3.out.cell (i := 7) rfl
      have k0 := K3.out.cell (i := 0) rfl
      have k1 := K3.out.cell (i := 1) rfl
      have k2 := K3.out.cell (i := 2) rfl
      have k3 := K3.out.cell (i := 3) rfl
      go_wp2_with fail
      go_ret
      exact ⟨rfl, B3.out⟩
    · exact absurd rfl hall
  · have hk2 : (kd == 2) = false := by simp [hk]
    have hk3 : (kd != 2) = true := by simp [hk]
    clear hall CR CB
    go_enter Try.func10, Try.ntmps10
    go_wp2_with fail
    refine (CD.out _).mono ?_
    rintro e w1 ⟨rfl, hb⟩
    have B1 := Lib.hid (B0.out.trans (hb.mono B0.out.size))
    have S1 := Lib.hid (S0.out.below hb)
    have K1 := Lib.hid (K0.out.below hb)
    clear hb B0 S0 K0 s0 s1 s2 s3 s4 s5 s6 s7 k0 k1 k2 k3
    have s0 := S1.out.cell (i := 0) rfl
    have s1 := S1.out.cell (i := 1) rfl
    have s2 := S1.out.cell (i := 2) rfl
    have s3 := S1.out.cell (i := 3) rfl
    have s4 := S1.out.cell (i := 4) rfl
    have s5 := S1.out.cell (i := 5) rfl
    have s6 := S1.out.cell (i := 6) rfl
    have s7 := S1.out.cell (i := 7) rfl
    have k0 := K1.out.cell (i := 0) rfl
    have k1 := K1.out.cell (i := 1) rfl
    have k2 := K1.out.cell (i := 2) rfl
    have k3 := K1.out.cell (i := 3) rfl
    go_wp2_with fail
    go_ret
    exact ⟨rfl, B1.out⟩
end Go.Proofs.Ytejeikfgmiadhab.Ll10
