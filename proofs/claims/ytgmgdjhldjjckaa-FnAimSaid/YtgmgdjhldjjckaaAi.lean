/- The jet that is aimed, of both. -/
import Derived.Test.YtgmgdjhldjjckaaSh
import Derived.Deep.DeepCutAuto
namespace Go.Proofs.Ytgmgdjhldjjckaa.Dr4
open Go.RowKit Go.Proofs.Ytgmgdjhldjjckaa.Cx Go.Proofs.Ytgmgdjhldjjckaa.Cm Go.Proofs.Ytgmgdjhldjjckaa.Pl Go.Proofs.Ytgmgdjhldjjckaa.Str Go.Proofs.Ytgmgdjhldjjckaa.Pw Go.Proofs.Ytgmgdjhldjjckaa.P2 Go.Proofs.Ytgmgdjhldjjckaa.Hd Go.Proofs.Ytgmgdjhldjjckaa.Jt Go.Proofs.Ytgmgdjhldjjckaa.Dp
set_option linter.unusedVariables false
set_option linter.unusedSimpArgs false

/-- The first index from k on, within n, at which p holds; k + n if there is none. -/
def srQ (p : Nat → Bool) : Nat → Nat → Nat
  | 0, k => k
  | n + 1, k => if p k then k else srQ p n (k + 1)
theorem srQ_yes {p : Nat → Bool} {n k : Nat} (h : 0 < n) (hp : p k = true) : srQ p n k = k := by
  obtain ⟨m, rfl⟩ : ∃ m, n = m + 1 := ⟨n - 1, by omega⟩
  unfold srQ; rw [if_pos hp]
theorem srQ_no {p : Nat → Bool} {n k : Nat} (h : 0 < n) (hp : p k = false) : srQ p n k = srQ p (n - 1) (k + 1) := by
  obtain ⟨m, rfl⟩ : ∃ m, n = m + 1 := ⟨n - 1, by omega⟩
  rw [srQ, if_neg (by rw [hp]; decide)]; rfl

def lB (x y h t l : Int) : Bool := inF x y h t l (fl x y h t l)
def lX (x y h t l : Int) : Int := if lB x y h t l then wy x (tx h.toNat t 0) (fl x y h t l).toNat else 0
def lY (x y h t l : Int) : Int := if lB x y h t l then wy y (ty h.toNat t 0) (fl x y h t l).toNat else 0
theorem land_eq (x y h t l : Int) : landV x y h t l = .tuple #[.agg #[.int .i64 (lX x y h t l), .int .i64 (lY x y h t l)], .bool (lB x y h t l)] := rfl

/-- Whether the jet of this heading and tilt lands there. -/
def pa (ax ay u v l : Int) (q : Nat) : Bool := lB ax ay ((q / 17 : Nat) : Int) ((q % 17 : Nat) : Int) l && (lX ax ay ((q / 17 : Nat) : Int) ((q % 17 : Nat) : Int) l == u && lY ax ay ((q / 17 : Nat) : Int) ((q % 17 : Nat) : Int) l == v)
theorem pa_at (ax ay u v l : Int) (a b : Nat) (hb : b < 17) : pa ax ay u v l (17 * a + b) = (lB ax ay (a : Int) (b : Int) l && (lX ax ay (a : Int) (b : Int) l == u && lY ax ay (a : Int) (b : Int) l == v)) := by
  unfold pa
  rw [show (17 * a + b) / 17 = a by omega, show (17 * a + b) % 17 = b by omega]
def aq (ax ay u v l : Int) : Nat := srQ (pa ax ay u v l) 68 0
def aimV (ax ay u v l : Int) : Value := if aq ax ay u v l < 68 then .tuple #[jv ax ay ((aq ax ay u v l / 17 : Nat) : Int) ((aq ax ay u v l % 17 : Nat) : Int) l, .bool true] else .tuple #[jv 0 0 0 0 0, .bool false]

/-- What holds of memory at each round: where the jet is to stand, where it is to land, and the result. -/
structure Aim (w wr : World) (ax ay u v : Int) : Prop where
  a : Tp.CB wr w.heap.size ax ay
  t : Tp.CB wr (w.heap.size + 1) u v
  r : JB wr (w.heap.size + 1 + 1) 0 0 0 0 0
  b : Below w.heap.size w wr
theorem Aim.alloc {w wr : World} {ax ay u v : Int} (k : Aim w wr ax ay u v) (o : Obj) : Aim w (wr.alloc o) ax ay u v := ⟨k.a.alloc o, k.t.alloc o, k.r.alloc o, k.b.alloc k.b.size o⟩
theorem Aim.below {w wr w' : World} {ax ay u v : Int} (k : Aim w wr ax ay u v) (hb : Below wr.heap.size wr w') : Aim w w' ax ay u v := ⟨k.a.below hb, k.t.below hb, k.r.below hb, k.b.trans (hb.mono k.b.size)⟩
theorem Aim.new (w : World) (ax ay u v : Int) : Aim w (((w.alloc (.cells #[.int .i64 ax, .int .i64 ay] 25)).alloc (.cells #[.int .i64 u, .int .i64 v] 25)).alloc (.cells (jc 0 0 0 0 0) 27)) ax ay u v :=
  ⟨((Tp.CB.new w ax ay).alloc _).alloc _, (show Tp.CB ((w.alloc (.cells #[.int .i64 ax, .int .i64 ay] 25)).alloc (.cells #[.int .i64 u, .int .i64 v] 25)) (w.heap.size + 1) u v from by simpa using Tp.CB.new (w.alloc (.cells #[.int .i64 ax, .int .i64 ay] 25)) u v).alloc _,
    by simpa using JB.new ((w.alloc (.cells #[.int .i64 ax, .int .i64 ay] 25)).alloc (.cells #[.int .i64 u, .int .i64 v] 25)) 0 0 0 0 0, by go_grown⟩

set_option maxHeartbeats 4000000 in
set_option maxRecDepth 100000 in
theorem aimI (ax ay u v l : Int) (w : World) : Calls Try.prog 26 #[.agg #[.int .i64 ax, .int .i64 ay], .agg #[.int .i64 u, .int .i64 v], .int .i64 l] w fun e w' => e = .returned (aimV ax ay u v l) ∧ Below w.heap.size w w' := by
  have RV := Lib.hid (show ∀ a b : Nat, b < 17 → aq ax ay u v l = 17 * a + b → a < 4 → Ending.returned (.tuple #[jv ax ay (a : Int) (b : Int) l, .bool true]) = .returned (aimV ax ay u v l) from fun a b hb h ha => by
    unfold aimV
    rw [h, if_pos (by omega), show (17 * a + b) / 17 = a by omega, show (17 * a + b) % 17 = b by omega])
  have RN := Lib.hid (show aq ax ay u v l = 68 → Ending.returned (.tuple #[jv 0 0 0 0 0, .bool false]) = .returned (aimV ax ay u v l) from fun h => by
    unfold aimV
    rw [h, if_neg (by omega)])
  have Q0 := Lib.hid (show aq ax ay u v l = srQ (pa ax ay u v l) (68 - 17 * 0) (17 * 0) from rfl)
  have A0 := Lib.hid (Aim.new w ax ay u v)
  have LDA := Lib.hid (fun (a b : Nat) => landI ax ay (a : Int) (b : Int) l)
  generalize aimV ax ay u v l = VV at *
  generalize aq ax ay u v l = q at *
  go_enter Try.func26, Try.ntmps26
  go_wp2_with fail
  go_loopw [13] (fun i wr => ∃ a : Nat, a ≤ 4 ∧ i = .int .i64 a ∧ Hid (q = srQ (pa ax ay u v l) (68 - 17 * a) (17 * a)) ∧ Hid (Aim w wr ax ay u v)) (fun i _ => 4 - (intOf i).toNat)
  case atStart => exact ⟨0, by omega, rfl, Q0, A0⟩
  case round =>
    obtain ⟨a, ha, rfl, HQ, HA⟩ := hrel
    by_cases hlt : a < 4
    · have hd : decide ((a : Int) < 4) = true := decide_eq_true (by omega)
      go_wp2_with fail
      obtain ⟨wo, rfl⟩ : ∃ wo : World, wo = wr := ⟨_, rfl⟩
      go_loopw [16] (fun i wi => ∃ b : Nat, b ≤ 17 ∧ i = .int .i64 b ∧ Hid (q = srQ (pa ax ay u v l) (68 - (17 * a + b)) (17 * a + b)) ∧ Hid (Aim w wi ax ay u v)) (fun i _ => 17 - (intOf i).toNat)
      case atStart => exact ⟨0, by omega, rfl, HQ, HA⟩
      case round =>
        clear HQ HA
        obtain ⟨b, hb, rfl, HQ, HA⟩ := hrel
        by_cases hlt2 : b < 17
        · have LD := LDA.out a b
          rw [land_eq] at LD
          have hp := pa_at ax ay u v l a b hlt2
          generalize lX ax ay (a : Int) (b : Int) l = X at *
          generalize lY ax ay (a : Int) (b : Int) l = Y at *
          generalize lB ax ay (a : Int) (b : Int) l = B at *
          replace LD := Lib.hid LD
          have a0 := HA.out.a.c0
          have a1 := HA.out.a.c1
          have lt0 := HA.out.a.lt
          have lt1 := HA.out.t.lt
          have b0 := HA.out.t.c0
          have b1 := HA.out.t.c1
          by_cases hall : B = true ∧ (X == u) = true ∧ (Y == v) = true
          · obtain ⟨rfl, e1, e2⟩ := hall
            have RE := Lib.hid (RV.out a b hlt2 (by rw [HQ.out, srQ_yes (by omega) (by rw [hp, e1, e2]; rfl)]) hlt)
            clear hp
            go_wp2_with fail
            refine (LD.out _).mono ?_
            rintro e v1 ⟨rfl, hb⟩
            have KA := Lib.hid (Aim.below (Aim.alloc HA.out (.cells (jc ax ay (a : Int) (b : Int) l) 27)) hb)
            have KJ := Lib.hid (JB.below (JB.new wr ax ay (a : Int) (b : Int) l) hb)
            clear hb a0 a1 b0 b1 lt0 lt1
            have t0 := KA.out.t.c0
            have t1 := KA.out.t.c1
            have lt1 := KA.out.t.lt
            have lt3 := KJ.out.lt
            have mt : ∀ j, w.heap.size + 1 < v1.heap.size + j := fun j => by omega
            have mk : ∀ j, wr.heap.size < v1.heap.size + j := fun j => by omega
            obtain ⟨k0, k1, k2, k3, k4⟩ := KJ.out.c
            go_upto_region 10 with fail
            have JR := Lib.hid (KA.out.r.alloc (.cells #[.int .i64 X, .int .i64 Y] 25))
            have JK := Lib.hid (KJ.out.alloc (.cells #[.int .i64 X, .int .i64 Y] 25))
            have HC := Lib.hid (show Below w.heap.size w (v1.alloc (.cells #[.int .i64 X, .int .i64 Y] 25)) from KA.out.b.alloc KA.out.b.size _)
            clear t0 t1 lt1 lt3 mt mk k0 k1 k2 k3 k4 KA KJ
            generalize v1.alloc (.cells #[.int .i64 X, .int .i64 Y] 25) = V at *
            have HB := HC
            have hsz := HB.out.size
            obtain ⟨b0, b1, b2, b3, b4⟩ := JR.out.c
            have g0 := JR.out.f 0
            have g1 := JR.out.f 1
            have g2 := JR.out.f 2
            have g3 := JR.out.f 3
            have g4 := JR.out.f 4
            obtain ⟨k0, k1, k2, k3, k4⟩ := JK.out.c
            go_wp2_with fail
            obtain ⟨s0, s1, s2, s3, s4⟩ := (JR.out.set ax ay (a : Int) (b : Int) l).c
            (try simp only [Exit.inBlock, Exit.then])
            refine bodyPost_ret (v := .tuple #[jv ax ay (a : Int) (b : Int) l, .bool true]) (by simp [results, Try.results26, go_sem, s0, s1, s2, s3, s4]; try rfl) rfl ?_
            exact ⟨RE.out, HB.out.trans (by go_grown)⟩
          · have hpf : pa ax ay u v l (17 * a + b) = false := by
              rw [hp, ← Bool.not_eq_true]
              intro h
              rw [Bool.and_eq_true, Bool.and_eq_true] at h
              exact hall h
            have NX := Lib.hid (show q = srQ (pa ax ay u v l) (68 - (17 * a + (b + 1))) (17 * a + (b + 1)) by
              rw [HQ.out, srQ_no (by omega) hpf, show 68 - (17 * a + b) - 1 = 68 - (17 * a + (b + 1)) by omega]; rfl)
            have hall2 : B = false ∨ B = true ∧ (X == u) = false ∨ B = true ∧ (X == u) = true ∧ (Y == v) = false := by
              cases B
              · exact Or.inl rfl
              · cases e1 : (X == u)
                · exact Or.inr (Or.inl ⟨rfl, rfl⟩)
                · cases e2 : (Y == v)
                  · exact Or.inr (Or.inr ⟨rfl, rfl, rfl⟩)
                  · exact absurd ⟨rfl, e1, e2⟩ hall
            clear hp hpf hall
            rcases hall2 with rfl | ⟨rfl, e1⟩ | ⟨rfl, e1, e2⟩
            all_goals
              go_wp2_with fail
              refine (LD.out _).mono ?_
              rintro e v1 ⟨rfl, hb⟩
              have KA := Lib.hid (Aim.below (Aim.alloc HA.out (.cells (jc ax ay (a : Int) (b : Int) l) 27)) hb)
              have KJ := Lib.hid (JB.below (JB.new wr ax ay (a : Int) (b : Int) l) hb)
              clear hb a0 a1 b0 b1 lt0 lt1
              have t0 := KA.out.t.c0
              have t1 := KA.out.t.c1
              have lt1 := KA.out.t.lt
              have lt3 := KJ.out.lt
              have mt : ∀ j, w.heap.size + 1 < v1.heap.size + j := fun j => by omega
              have mk : ∀ j, wr.heap.size < v1.heap.size + j := fun j => by omega
              obtain ⟨k0, k1, k2, k3, k4⟩ := KJ.out.c
              go_wp2_with fail
              go_roundw
              case rel => first | exact ⟨b + 1, by omega, by go_num, NX, Lib.hid (KA.out.alloc (.cells #[.int .i64 X, .int .i64 Y] 25))⟩ | ((repeat apply Exists.intro); exact ⟨⟨b + 1, by omega, by go_num, NX, Lib.hid (KA.out.alloc (.cells #[.int .i64 X, .int .i64 Y] 25))⟩, rfl⟩)
              case measure => simp [intOf]; omega
        · have hb17 : b = 17 := by omega
          have NX := Lib.hid (show q = srQ (pa ax ay u v l) (68 - 17 * (a + 1)) (17 * (a + 1)) by
            rw [HQ.out, hb17]; rfl)
          clear hb17
          go_wp2_with fail
          go_roundw
          case rel => first | exact ⟨a + 1, by omega, by go_num, NX, HA⟩ | ((repeat apply Exists.intro); exact ⟨⟨a + 1, by omega, by go_num, NX, HA⟩, rfl⟩)
          case measure => simp [intOf]; omega
    · have ha4 : a = 4 := by omega
      have RE := Lib.hid (RN.out (by rw [HQ.out, ha4]; rfl))
      have JR := Lib.hid HA.out.r
      have HB := Lib.hid HA.out.b
      have hsz := HB.out.size
      clear ha4 HQ
      obtain ⟨b0, b1, b2, b3, b4⟩ := JR.out.c
      have g0 := JR.out.f 0
      have g1 := JR.out.f 1
      have g2 := JR.out.f 2
      have g3 := JR.out.f 3
      have g4 := JR.out.f 4
      go_wp2_with fail
      obtain ⟨s0, s1, s2, s3, s4⟩ := (JR.out.set 0 0 0 0 0).c
      (try simp only [Exit.inBlock, Exit.then])
      refine bodyPost_ret (v := .tuple #[jv 0 0 0 0 0, .bool false]) (by simp [results, Try.results26, go_sem, s0, s1, s2, s3, s4]; try rfl) rfl ?_
      exact ⟨RE.out, HB.out.trans (by go_grown)⟩

end Go.Proofs.Ytgmgdjhldjjckaa.Dr4
