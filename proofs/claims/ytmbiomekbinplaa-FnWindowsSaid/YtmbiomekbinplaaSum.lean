/- The sum of a list of measures: by the model's integers and by the program's spans and rests of floats. -/
import Derived.Test.YtmbiomekbinplaaTimes
import Derived.Test.YtmbiomekbinplaaRampAt
import Derived.Test.YtmbiomekbinplaaMem
import Derived.StillTailTactics
import Derived.Deep.RegionWith
import Derived.Laws.Entries
namespace Go.Proofs.Ytmbiomekbinplaa.Sum
open Go.RowKit Go.Proofs.Ytmbiomekbinplaa.Flt Go.Proofs.Ytmbiomekbinplaa.Meas Go.Proofs.Ytmbiomekbinplaa.Times Go.Proofs.Ytmbiomekbinplaa.Mem

def tot : List Int → Int
  | [] => 0
  | z :: zs => z + tot zs
def AllM (zs : List Int) : Prop := ∀ z ∈ zs, -4096 ≤ z ∧ z ≤ 4096
def Good (zs : List Int) : Prop := AllM zs ∧ -4096 ≤ tot zs ∧ tot zs ≤ 4096
noncomputable def goodB (zs : List Int) : Bool := @decide (Good zs) (Classical.propDecidable _)
noncomputable def val (zs : List Int) : Int := if goodB zs = true then tot zs else 0

theorem tot_append (a b : List Int) : tot (a ++ b) = tot a + tot b := by
  induction a with
  | nil => simp [tot]
  | cons z a ih => simp only [List.cons_append, tot, ih]; omega
theorem tot_take {zs : List Int} {k : Nat} {z : Int} (h : zs[k]? = some z) : tot (zs.take (k + 1)) = tot (zs.take k) + z := by
  obtain ⟨hk, rfl⟩ := List.getElem?_eq_some_iff.1 h
  rw [List.take_succ_eq_append_getElem hk, tot_append]; simp [tot]
theorem all_take {zs : List Int} {k : Nat} {z : Int} (h : zs[k]? = some z) (ha : AllM (zs.take k)) (h1 : -4096 ≤ z) (h2 : z ≤ 4096) : AllM (zs.take (k + 1)) := by
  obtain ⟨hk, rfl⟩ := List.getElem?_eq_some_iff.1 h
  rw [List.take_succ_eq_append_getElem hk]
  intro x hx
  rcases List.mem_append.1 hx with hx | hx
  · exact ha x hx
  · simp at hx; subst hx; exact ⟨h1, h2⟩
theorem tot_bound : ∀ {zs : List Int}, AllM zs → -4096 * (zs.length : Int) ≤ tot zs ∧ tot zs ≤ 4096 * (zs.length : Int)
  | [], _ => by simp [tot]
  | z :: zs, h => by
    have h1 := h z (List.mem_cons_self ..)
    have h2 := tot_bound (zs := zs) fun x hx => h x (List.mem_cons_of_mem _ hx)
    simp only [tot, List.length_cons]
    omega
theorem tot_take_bound {zs : List Int} {k : Nat} (h : AllM (zs.take k)) (hk : k ≤ 1048576) : -4294967296 ≤ tot (zs.take k) ∧ tot (zs.take k) ≤ 4294967296 := by
  have := tot_bound h
  have hl : (zs.take k).length ≤ k := List.length_take_le _ _
  omega

theorem good_no {zs : List Int} {k : Nat} {z : Int} (h : zs[k]? = some z) (hz : z < -4096 ∨ 4096 < z) : goodB zs = false ∧ val zs = 0 := by
  have e : goodB zs = false := by
    unfold goodB
    exact @decide_eq_false _ (Classical.propDecidable _) fun c => by have := c.1 z (List.mem_of_getElem? h); omega
  exact ⟨e, by unfold val; rw [e]; rfl⟩
theorem good_far {zs : List Int} (h : tot zs < -4096 ∨ 4096 < tot zs) : goodB zs = false ∧ val zs = 0 := by
  have e : goodB zs = false := by
    unfold goodB
    exact @decide_eq_false _ (Classical.propDecidable _) fun c => by have := c.2; omega
  exact ⟨e, by unfold val; rw [e]; rfl⟩
theorem good_yes {zs : List Int} (h : AllM zs) (h1 : -4096 ≤ tot zs) (h2 : tot zs ≤ 4096) : goodB zs = true ∧ val zs = tot zs := by
  have e : goodB zs = true := by
    unfold goodB
    exact @decide_eq_true _ (Classical.propDecidable _) ⟨h, h1, h2⟩
  exact ⟨e, by unfold val; rw [e]; rfl⟩
theorem fin {zs : List Int} {v : Int} {b : Bool} (h : goodB zs = b ∧ val zs = v) : Ending.returned (.tuple #[.int .i64 v, .bool b]) = .returned (.tuple #[.int .i64 (val zs), .bool (goodB zs)]) := by rw [h.1, h.2]

theorem addM (a b : Int) (ha : a.natAbs < 16777216) (hb : b.natAbs < 16777216) (w : World) :
    (binOp .add 58 (.float .f32 (f32 a)) (.float .f32 (f32 b))).run Try.prog w = .ok (.float .f32 (f32 (a + b))) w :=
  run_float_arith w .add _ .f32 _ _ _ (add_fl Ieee.single a b (-3) (fits32 a ha) (fits32 b hb))
theorem c1024 : f32 8192 = 1149239296 := by decide
theorem addSpan (a : Int) (ha : a.natAbs < 16777216) (w : World) :
    (binOp .add 58 (.float .f32 (f32 a)) (.float .f32 1149239296)).run Try.prog w = .ok (.float .f32 (f32 (a + 8192))) w := by
  have := addM a 8192 ha (by decide) w
  rwa [c1024] at this
theorem subSpan (a : Int) (ha : a.natAbs < 16777216) (w : World) :
    (binOp .sub 58 (.float .f32 (f32 a)) (.float .f32 1149239296)).run Try.prog w = .ok (.float .f32 (f32 (a - 8192))) w := by
  have := RampAt.subM a 8192 (by decide) ha w
  rwa [c1024] at this

theorem gtB (a : Int) (ha : a.natAbs < 16777216) : (FloatKind.f32.format.order (f32 a) 1140850688 == some .gt) = decide (4096 < a) := by
  have o := order32 a 4096 ha (by decide)
  rw [e512] at o
  rw [o]
  by_cases h : 4096 < a
  · rw [cmp_gt h, decide_eq_true h]; rfl
  · rw [decide_eq_false h]
    by_cases h2 : a = 4096
    · rw [cmp_eq h2]; rfl
    · rw [cmp_lt (by omega)]; rfl
theorem ltB (a : Int) (ha : a.natAbs < 16777216) : (FloatKind.f32.format.order (f32 a) 3288334336 == some .lt) = decide (a < -4096) := by
  have o := order32 a (-4096) ha (by decide)
  rw [en512] at o
  rw [o]
  by_cases h : a < -4096
  · rw [cmp_lt h, decide_eq_true h]; rfl
  · rw [decide_eq_false h]
    by_cases h2 : a = -4096
    · rw [cmp_eq h2]; rfl
    · rw [cmp_gt (by omega)]; rfl

@[go_sem] theorem run_store_float (P : Program) (w : World) (a : Addr) (m : Mode) (k : FloatKind) (b : Nat) : (store a (.float k b) m).run P w = stored P w a (.float k b) m := run_store P w a _ m rfl

/-- What one more measure leaves: spans and a rest that tell the same sum. -/
def Plus (sp r x : Int) (w : World) (e : Ending) (w' : World) : Prop :=
  ∃ sp' r' : Int, e = .returned (.agg #[.int .i64 sp', .float .f32 (f32 r')]) ∧ 8192 * sp' + r' = 8192 * sp + r + x ∧ -4096 ≤ r' ∧ r' ≤ 4096 ∧ sp - 1 ≤ sp' ∧ sp' ≤ sp + 1 ∧ Below w.heap.size w w'

set_option maxHeartbeats 2000000 in
theorem plus (sp r x : Int) (h1 : -4096 ≤ r) (h2 : r ≤ 4096) (h3 : -4096 ≤ x) (h4 : x ≤ 4096) (h5 : -4294967296 ≤ sp) (h6 : sp ≤ 4294967296) (w : World) :
    Calls Try.prog 55 #[.agg #[.int .i64 sp, .float .f32 (f32 r)], .float .f32 (f32 x)] w (Plus sp r x w) := by
  have a1 := addM r x (by omega) (by omega)
  have g1 := gtB (r + x) (by omega)
  have s1 := subSpan (r + x) (by omega)
  have a2 := addSpan (r + x) (by omega)
  have l1 := ltB (r + x) (by omega)
  have l2 := ltB (r + x - 8192) (by omega)
  obtain ⟨y, hy⟩ : ∃ y, y = r + x := ⟨_, rfl⟩
  rw [← hy] at a1 g1 s1 a2 l1 l2
  have hy1 : -8192 ≤ y := by omega
  have hy2 : y ≤ 8192 := by omega
  have HY := Lib.hid hy
  clear hy
  by_cases c1 : 4096 < y
  · rw [decide_eq_true c1] at g1
    rw [decide_eq_false (by omega)] at l2
    clear l1 a2
    go_enter Try.func55, Try.ntmps55
    go_wp2
    refine bodyPost_ret (v := .agg #[.int .i64 (sp + 1), .float .f32 (f32 (y - 8192))]) (by simp [results, Try.results55, go_sem]) rfl ⟨sp + 1, y - 8192, rfl, ?_, ?_, ?_, ?_, ?_, ?_⟩
    · have := HY.out; omega
    · omega
    · omega
    · omega
    · omega
    · exact ((Below.refl _ _).alloc (Nat.le_refl _) _).alloc (by simp) _
  · rw [decide_eq_false c1] at g1
    by_cases c2 : y < -4096
    · rw [decide_eq_true c2] at l1
      clear l2 s1
      go_enter Try.func55, Try.ntmps55
      go_wp2
      refine bodyPost_ret (v := .agg #[.int .i64 (sp - 1), .float .f32 (f32 (y + 8192))]) (by simp [results, Try.results55, go_sem]) rfl ⟨sp - 1, y + 8192, rfl, ?_, ?_, ?_, ?_, ?_, ?_⟩
      · have := HY.out; omega
      · omega
      · omega
      · omega
      · omega
      · exact ((Below.refl _ _).alloc (Nat.le_refl _) _).alloc (by simp) _
    · rw [decide_eq_false c2] at l1
      clear l2 s1 a2
      go_enter Try.func55, Try.ntmps55
      go_wp2
      refine bodyPost_ret (v := .agg #[.int .i64 sp, .float .f32 (f32 y)]) (by simp [results, Try.results55, go_sem]) rfl ⟨sp, y, rfl, ?_, ?_, ?_, ?_, ?_, ?_⟩
      · have := HY.out; omega
      · omega
      · omega
      · omega
      · omega
      · exact ((Below.refl _ _).alloc (Nat.le_refl _) _).alloc (by simp) _

/-- What is told of spans and a rest. -/
def Told (t : Int) (w : World) (e : Ending) (w' : World) : Prop :=
  e = .returned (.tuple #[.int .i64 (if -4096 ≤ t ∧ t ≤ 4096 then t else 0), .bool (decide (-4096 ≤ t ∧ t ≤ 4096))]) ∧ Below w.heap.size w w'

theorem told_mk_no {t : Int} (h : ¬ (-4096 ≤ t ∧ t ≤ 4096)) : Ending.returned (.tuple #[.int .i64 0, .bool false]) = .returned (.tuple #[.int .i64 (if -4096 ≤ t ∧ t ≤ 4096 then t else 0), .bool (decide (-4096 ≤ t ∧ t ≤ 4096))]) := by
  rw [if_neg h, decide_eq_false h]
theorem told_mk_yes {t : Int} (h : -4096 ≤ t ∧ t ≤ 4096) : Ending.returned (.tuple #[.int .i64 t, .bool true]) = .returned (.tuple #[.int .i64 (if -4096 ≤ t ∧ t ≤ 4096 then t else 0), .bool (decide (-4096 ≤ t ∧ t ≤ 4096))]) := by
  rw [if_pos h, decide_eq_true h]

theorem spanF (sp : Int) (h1 : -1 ≤ sp) (h2 : sp ≤ 1) : floatOfInt .f32 (sp * 1024) = f32 (8192 * sp) := by
  have := fl_scale Ieee.single (sp * 1024) 3 0
  show fl Ieee.single (sp * 1024) 0 = fl Ieee.single (8192 * sp) (-3)
  rw [← this]
  congr 1
  omega

set_option maxHeartbeats 2000000 in
theorem toldSum (sp r : Int) (h1 : -4096 ≤ r) (h2 : r ≤ 4096) (h5 : -4294967296 ≤ sp) (h6 : sp ≤ 4294967296) (w : World) :
    Calls Try.prog 56 #[.agg #[.int .i64 sp, .float .f32 (f32 r)]] w (Told (8192 * sp + r) w) := by
  by_cases c1 : sp < -1
  · have F := Lib.hid (told_mk_no (t := 8192 * sp + r) (by omega))
    go_enter Try.func56, Try.ntmps56
    go_wp2
    go_ret2
    exact ⟨F.out, (Below.refl _ _).alloc (Nat.le_refl _) _⟩
  · by_cases c2 : 1 < sp
    · have F := Lib.hid (told_mk_no (t := 8192 * sp + r) (by omega))
      have d1 : decide (sp < -1) = false := decide_eq_false c1
      go_enter Try.func56, Try.ntmps56
      go_wp2
      go_ret2
      exact ⟨F.out, (Below.refl _ _).alloc (Nat.le_refl _) _⟩
    · have d1 : decide (sp < -1) = false := decide_eq_false c1
      have d2 : decide (1 < sp) = false := decide_eq_false c2
      have hs1 : -1 ≤ sp := by omega
      have hs2 : sp ≤ 1 := by omega
      have a1 := addM r (8192 * sp) (by omega) (by omega)
      rw [← spanF sp hs1 hs2] at a1
      by_cases c3 : -4096 ≤ r + 8192 * sp ∧ r + 8192 * sp ≤ 4096
      · have F := Lib.hid (told_mk_yes (t := 8192 * sp + r) (by omega))
        have F2 := Lib.hid (show r + 8192 * sp = 8192 * sp + r by omega)
        obtain ⟨c4, c5⟩ := c3
        clear c1 c2
        go_enter Try.func56, Try.ntmps56
        go_wp2_with (go_at_call 36; refine (told _ c4 c5 _).mono ?_; rintro e w' ⟨rfl, rfl⟩)
        go_ret2
        exact ⟨by rw [← F.out, F2.out]; rfl, (Below.refl _ _).alloc (Nat.le_refl _) _⟩
      · have F := Lib.hid (told_mk_no (t := 8192 * sp + r) (by omega))
        have c4 : r + 8192 * sp < -4096 ∨ 4096 < r + 8192 * sp := by omega
        have c5 : (r + 8192 * sp).natAbs < 16777216 := by omega
        clear c1 c2 c3
        go_enter Try.func56, Try.ntmps56
        go_wp2_with (go_at_call 36; refine (told_no _ c4 c5 _).mono ?_; rintro e w' ⟨rfl, rfl⟩)
        go_ret2
        exact ⟨F.out, (Below.refl _ _).alloc (Nat.le_refl _) _⟩

/-- What the program's sum leaves. -/
def Summed (zs : List Int) (w : World) (e : Ending) (w' : World) : Prop :=
  e = .returned (.tuple #[.int .i64 (val zs), .bool (goodB zs)]) ∧ Below w.heap.size w w'

theorem cell_below {w w' : World} {B b o : Nat} (h : Below B w w') (hb : b < B) : w'.cell? ⟨b, o, none⟩ = w.cell? ⟨b, o, none⟩ := h.cell (p := ⟨b, o, none⟩) hb

set_option maxHeartbeats 2000000 in
theorem impl (A : Option Addr) (n c : Nat) (zs : List Int) (w : World) (hn : zs.length = n) (hb : n ≤ 1048576) (hr : Rd w w.heap.size A (ints zs)) :
    Calls Try.prog 46 #[.slice A n c] w (Summed zs w) := by
  have HR := Lib.hid hr
  have HN := Lib.hid hn
  clear hr hn
  go_enter Try.func46, Try.ntmps46
  go_wp2
  go_loopw [9] (fun i wr => ∃ k : Nat, k ≤ n ∧ i = .int .i64 k ∧ Hid (AllM (zs.take k)) ∧ ∃ sp r : Int, wr.cell? ⟨w.heap.size, 0, none⟩ = some (.int .i64 sp) ∧ wr.cell? ⟨w.heap.size, 1, none⟩ = some (.float .f32 (f32 r)) ∧ wr.frozen? ⟨w.heap.size, 0, none⟩ = false ∧ wr.frozen? ⟨w.heap.size, 1, none⟩ = false ∧
      w.heap.size < wr.heap.size ∧ Hid (8192 * sp + r = tot (zs.take k)) ∧ -4096 ≤ r ∧ r ≤ 4096 ∧ -4294967296 ≤ 8192 * sp + r ∧ 8192 * sp + r ≤ 4294967296 ∧ Hid (Below w.heap.size w wr)) (fun i _ => n - (intOf i).toNat)
  case atStart =>
    have hz : Below w.heap.size w (w.alloc (.cells #[.int .i64 0, .float .f32 0] 81)) := (Below.refl _ _).alloc (Nat.le_refl _) _
    refine ⟨0, Nat.zero_le _, rfl, (by intro x hx; cases hx), 0, 0, by go_simp, ?_, by go_simp, by go_simp, by simp, rfl, by decide, by decide, by decide, by decide, hz⟩
    rw [show f32 0 = 0 by decide]
    go_simp
  case round =>
    obtain ⟨k, hk, rfl, HA, sp, r, q1, q2, q3, q4, hsz, HT, hr1, hr2, ht1, ht2, HB⟩ := hrel
    by_cases hlt : k < n
    · have hkz : k < zs.length := by rw [HN.out]; exact hlt
      have hl : k < (ints zs).length := by rw [ints_len]; exact hkz
      obtain ⟨z, hz⟩ : ∃ z, zs[k]? = some z := ⟨_, List.getElem?_eq_getElem hkz⟩
      have hz2 : (ints zs)[k]? = some (.int .i64 z) := by unfold ints; rw [List.getElem?_map, hz]; rfl
      obtain ⟨b1, o1, eA, hb1, g1⟩ := HR.out.get hl
      have c1 : wr.cell? ⟨b1, o1 + k, none⟩ = some (.int .i64 z) := (cell_below HB.out hb1).trans (g1 k _ hz2)
      have HZ := Lib.hid hz
      clear g1 hz hz2 hl hkz
      subst eA
      by_cases hm : z < -4096 ∨ 4096 < z
      · have F := Lib.hid (good_no HZ.out hm)
        go_wp2_with (go_at_call 54; refine (isMeasure_impl_no _ _ hm).mono ?_; rintro e w' ⟨rfl, rfl⟩)
        go_ret2
        exact ⟨fin F.out, HB.out⟩
      · have hm1 : -4096 ≤ z := by omega
        have hm2 : z ≤ 4096 := by omega
        have HA1 := Lib.hid (all_take HZ.out HA.out hm1 hm2)
        have bd := tot_take_bound HA1.out (by omega)
        rw [tot_take HZ.out, ← HT.out] at bd
        obtain ⟨bd1, bd2⟩ := bd
        have HT1 := Lib.hid (tot_take HZ.out)
        clear hm
        go_wp2_with (go_at_call 54; refine (isMeasure_impl _ _ hm1 hm2).mono ?_; rintro e w' ⟨rfl, rfl⟩)
        go_region_with (first
          | (go_at_call 48; refine (wholesOf _ (by omega) _).mono ?_; rintro e w' ⟨rfl, rfl⟩)
          | (go_at_call 55; refine (plus _ _ _ hr1 hr2 hm1 hm2 (by omega) (by omega) _).mono ?_; rintro e w2 ⟨sp2, r2, rfl, y1, y2, y3, y4, y5, y6⟩
             have p1 : w2.cell? ⟨w.heap.size, 0, none⟩ = some (.int .i64 sp) := (cell_below y6 hsz).trans q1
             have p2 : w2.cell? ⟨w.heap.size, 1, none⟩ = some (.float .f32 (f32 r)) := (cell_below y6 hsz).trans q2
             have p3 : w2.frozen? ⟨w.heap.size, 0, none⟩ = false := (y6.frozen (p := ⟨w.heap.size, 0, none⟩) hsz).trans q3
             have p4 : w2.frozen? ⟨w.heap.size, 1, none⟩ = false := (y6.frozen (p := ⟨w.heap.size, 1, none⟩) hsz).trans q4
             have Y := Lib.hid (And.intro y1 y6)
             clear y1 y6))
        all_goals
          obtain ⟨W3, hW3⟩ : ∃ W3, W3 = (w2.setCell ⟨w.heap.size, 0, none⟩ (.int .i64 sp2)).setCell ⟨w.heap.size, 1, none⟩ (.float .f32 (f32 r2)) := ⟨_, rfl⟩
          have t1 : W3.cell? ⟨w.heap.size, 0, none⟩ = some (.int .i64 sp2) := by
            rw [hW3, World.cell?_setCell_other _ _ _ _ (by simp)]
            exact World.cell?_setCell_same _ _ _ p1
          have t2 : W3.cell? ⟨w.heap.size, 1, none⟩ = some (.float .f32 (f32 r2)) := by
            rw [hW3]
            exact World.cell?_setCell_same _ _ _ ((World.cell?_setCell_other _ _ _ _ (by simp)).trans p2)
          have t3 : W3.frozen? ⟨w.heap.size, 0, none⟩ = false := by rw [hW3, World.frozen?_setCell, World.frozen?_setCell]; exact p3
          have t4 : W3.frozen? ⟨w.heap.size, 1, none⟩ = false := by rw [hW3, World.frozen?_setCell, World.frozen?_setCell]; exact p4
          have t5 : Below w.heap.size w W3 := by
            rw [hW3]
            exact (((below_drewN HB.out 1).trans (Y.out.2.mono (Nat.le_of_lt hsz))).setCell (p := ⟨w.heap.size, 0, none⟩) (Nat.le_refl _) _).setCell (p := ⟨w.heap.size, 1, none⟩) (Nat.le_refl _) _
          have t6 : w.heap.size < W3.heap.size := by
            have := Y.out.2.size
            rw [hW3]
            simp only [World.setCell, Array.size_modify]
            exact Nat.lt_of_lt_of_le hsz this
          rw [← hW3]
          have T5 := Lib.hid t5
          have HT2 := Lib.hid (show 8192 * sp2 + r2 = tot (zs.take (k + 1)) by rw [HT1.out, ← HT.out, Y.out.1])
          have yb : -4294967296 ≤ 8192 * sp2 + r2 ∧ 8192 * sp2 + r2 ≤ 4294967296 := by have := Y.out.1; omega
          clear hW3 p1 p2 p3 p4 t5 Y q1 q2 q3 q4 c1 HB HT HT1 HA hsz
          go_wp2
          go_roundw
          case rel => exact ⟨k + 1, by omega, by go_num, HA1, sp2, r2, t1, t2, t3, t4, t6, HT2, y2, y3, yb.1, yb.2, T5⟩
          case measure => simp [intOf]; omega
    · obtain rfl : k = n := by omega
      have ht : zs.take k = zs := by rw [← HN.out, List.take_length]
      have HA1 := Lib.hid (show AllM zs by have := HA.out; rwa [ht] at this)
      have HT1 := Lib.hid (show 8192 * sp + r = tot zs by have := HT.out; rwa [ht] at this)
      clear HA HT ht
      go_wp2_with fail
      refine (toldSum sp r hr1 hr2 (by omega) (by omega) _).mono ?_
      rintro e w2 ⟨rfl, y6⟩
      have F := Lib.hid (show goodB zs = decide (-4096 ≤ 8192 * sp + r ∧ 8192 * sp + r ≤ 4096) ∧ val zs = (if -4096 ≤ 8192 * sp + r ∧ 8192 * sp + r ≤ 4096 then 8192 * sp + r else 0) by
        by_cases c : -4096 ≤ 8192 * sp + r ∧ 8192 * sp + r ≤ 4096
        · rw [if_pos c, decide_eq_true c]
          have := good_yes HA1.out (by rw [← HT1.out]; exact c.1) (by rw [← HT1.out]; exact c.2)
          exact ⟨this.1, this.2.trans HT1.out.symm⟩
        · rw [if_neg c, decide_eq_false c]
          exact good_far (by rw [← HT1.out]; omega))
      have HB2 := Lib.hid (HB.out.trans (y6.mono (Nat.le_of_lt hsz)))
      generalize (if -4096 ≤ 8192 * sp + r ∧ 8192 * sp + r ≤ 4096 then 8192 * sp + r else 0) = vv at *
      generalize decide (-4096 ≤ 8192 * sp + r ∧ 8192 * sp + r ≤ 4096) = bb at *
      clear y6 HB q1 q2 q3 q4
      go_wp2
      go_ret2
      exact ⟨fin F.out, HB2.out⟩

end Go.Proofs.Ytmbiomekbinplaa.Sum
