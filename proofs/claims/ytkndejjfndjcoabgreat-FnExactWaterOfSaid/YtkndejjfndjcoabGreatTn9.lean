/- How many drops are thrown and have landed, how high they go, how much water they take. -/
import Derived.Test.YtkndejjfndjcoabGreatTm9
import Derived.Test.YtkndejjfndjcoabGreatM22
import Derived.Test.YtkndejjfndjcoabGreatFsh
import Derived.Lib.MinMax
namespace Go.Proofs.YtkndejjfndjcoabGreat.Tn9
open Go.RowKit Go.ChangeShapes Go.WideShapes Go.WideElems Go.Deep Go.Proofs.YtkndejjfndjcoabGreat.Mem Go.Proofs.YtkndejjfndjcoabGreat.Rw Go.Proofs.YtkndejjfndjcoabGreat.P2 Go.Proofs.YtkndejjfndjcoabGreat.Bk Go.Proofs.YtkndejjfndjcoabGreat.Sp Go.Proofs.YtkndejjfndjcoabGreat.Sq Go.Proofs.YtkndejjfndjcoabGreat.Jt Go.Proofs.YtkndejjfndjcoabGreat.Cm Go.Proofs.YtkndejjfndjcoabGreat.Cx Go.Proofs.YtkndejjfndjcoabGreat.Pl
open Go.Proofs.YtkndejjfndjcoabGreat.Sv hiding D C G
open Go.Proofs.YtkndejjfndjcoabGreat.Ig (rig)
set_option linter.unusedVariables false
set_option linter.unusedSimpArgs false
open Go.Proofs.YtkndejjfndjcoabGreat.Wp (RowI rd_cell)
open Go.Proofs.YtkndejjfndjcoabGreat.Dp
open Go.Proofs.YtkndejjfndjcoabGreat.Tw9
open Go.Proofs.YtkndejjfndjcoabGreat.Tm9 (bls bls_get bls_len RowM)
abbrev tv (u : T9) : Value := .agg #[.string u.z.d.nm, .int .i64 u.z.b, .int .i64 (u.z.b + (u.z.l + 1)), .int .i64 u.z.d.x, .int .i64 u.z.d.y, .int .i64 u.z.d.hd, .int .i64 u.z.d.tl, .int .i64 u.z.l, .complex .f32 u.re u.im]
abbrev tca (u : T9) : Array Value := #[.string u.z.d.nm, .int .i64 u.z.b, .int .i64 (u.z.b + (u.z.l + 1)), .int .i64 u.z.d.x, .int .i64 u.z.d.y, .int .i64 u.z.d.hd, .int .i64 u.z.d.tl, .int .i64 u.z.l, .complex .f32 u.re u.im]
abbrev bca (u : B) : Array Value := #[.string u.d.nm, .int .i64 u.b, .int .i64 u.d.x, .int .i64 u.d.y, .int .i64 u.d.hd, .int .i64 u.d.tl, .int .i64 u.l]

/-- How many drops there are of which this holds. -/
def cnt (p : B → Bool) (zs : List B) : Int := ((zs.filter p).length : Int)
theorem cnt_zero (p : B → Bool) : cnt p [] = 0 := rfl
theorem cnt_take {p : B → Bool} {zs : List B} {k : Nat} {z : B} (h : zs[k]? = some z) : cnt p (zs.take (k + 1)) = if p z then cnt p (zs.take k) + 1 else cnt p (zs.take k) := by
  obtain ⟨hk, rfl⟩ := List.getElem?_eq_some_iff.1 h
  unfold cnt
  rw [List.take_succ_eq_append_getElem hk, List.filter_append]
  cases e : p zs[k] <;> simp [e]
theorem cnt_le (p : B → Bool) (zs : List B) : 0 ≤ cnt p zs ∧ cnt p zs ≤ zs.length := by
  unfold cnt; have := List.length_filter_le p zs; omega
def thP (t : Int) (z : B) : Bool := decide ((z.b : Int) ≤ t)
def laP (t : Int) (z : B) : Bool := decide ((z.b : Int) + (z.l + 1) ≤ t)
/-- The water of drops. -/
def wat : List B → Int
  | [] => 0
  | z :: r => z.l + wat r
theorem wat_app : ∀ (a b : List B), wat (a ++ b) = wat a + wat b
  | [], b => by simp [wat]
  | z :: a, b => by rw [List.cons_append, wat, wat, wat_app a b]; omega
theorem wat_take {zs : List B} {k : Nat} {z : B} (h : zs[k]? = some z) : wat (zs.take (k + 1)) = wat (zs.take k) + z.l := by
  obtain ⟨hk, rfl⟩ := List.getElem?_eq_some_iff.1 h
  rw [List.take_succ_eq_append_getElem hk, wat_app]; simp [wat]
theorem wat_le : ∀ (zs : List B), (∀ z ∈ zs, 1 ≤ z.l ∧ z.l ≤ 32) → 0 ≤ wat zs ∧ wat zs ≤ 32 * (zs.length : Int)
  | [], _ => ⟨Int.le_refl _, Int.le_refl _⟩
  | z :: r, h => by
    have h1 := h z (List.mem_cons_self ..)
    have h2 := wat_le r fun y hy => h y (List.mem_cons_of_mem _ hy)
    rw [wat, List.length_cons]; omega
/-- How high a drop goes. -/
def ph (z : B) : Int := ha z.d.x z.d.y z.d.hd z.d.tl z.l (pk z.d.x z.d.y z.d.hd z.d.tl z.l)
def hi9 (zs : List B) : Int := zs.foldl (fun n z => max n (ph z)) 0
theorem hi_take {zs : List B} {k : Nat} {z : B} (h : zs[k]? = some z) : hi9 (zs.take (k + 1)) = max (hi9 (zs.take k)) (ph z) := by
  obtain ⟨hk, rfl⟩ := List.getElem?_eq_some_iff.1 h
  unfold hi9
  rw [List.take_succ_eq_append_getElem hk, List.foldl_append]; rfl
theorem all_len9 {ds : List D} {cs : List C} {gs : List G} {T : Int} {m : Nat} (h : (all9 ds cs gs T).length = m) : m ≤ 512 := by rw [← h]; exact all9_len ds cs gs T
theorem z_in {ds : List D} {cs : List C} {gs : List G} {T : Int} {z : B} (h : z ∈ all9 ds cs gs T) : jt z.d.x z.d.y z.d.hd z.d.tl z.l = true ∧ z.b < 64 := ⟨(all9_ok z h).1.1, (all9_ok z h).2⟩
theorem map_get {ts : List T9} {zs : List B} {k : Nat} {u : T9} (h : ts.map T9.z = zs) (hu : ts[k]? = some u) : zs[k]? = some u.z := by rw [← h, List.getElem?_map, hu]; rfl
theorem cB {w : World} {base g n c k : Nat} {zs : List B} {z : B} (o : w.ownsRow base 55 7 (.slice (some ⟨g, 0, none⟩) n c) n (bls zs)) (h : zs[k]? = some z) (hk : k < n) :
    w.cell? ⟨g, k * 7, none⟩ = some (.string z.d.nm) ∧ w.cell? ⟨g, k * 7 + 1, none⟩ = some (.int .i64 z.b) ∧ w.cell? ⟨g, k * 7 + 2, none⟩ = some (.int .i64 z.d.x) ∧ w.cell? ⟨g, k * 7 + 3, none⟩ = some (.int .i64 z.d.y) ∧ w.cell? ⟨g, k * 7 + 4, none⟩ = some (.int .i64 z.d.hd) ∧ w.cell? ⟨g, k * 7 + 5, none⟩ = some (.int .i64 z.d.tl) ∧ w.cell? ⟨g, k * 7 + 6, none⟩ = some (.int .i64 z.l) :=
  have g := bls_get h
  ⟨(o.cellAt (k * 7) (by omega)).trans g.1, (o.cellAt (k * 7 + 1) (by omega)).trans g.2.1, (o.cellAt (k * 7 + 2) (by omega)).trans g.2.2.1, (o.cellAt (k * 7 + 3) (by omega)).trans g.2.2.2.1, (o.cellAt (k * 7 + 4) (by omega)).trans g.2.2.2.2.1, (o.cellAt (k * 7 + 5) (by omega)).trans g.2.2.2.2.2.1, (o.cellAt (k * 7 + 6) (by omega)).trans g.2.2.2.2.2.2⟩
theorem cT {w : World} {base g n c k : Nat} {us : List T9} {u : T9} (o : w.ownsRow base 62 9 (.slice (some ⟨g, 0, none⟩) n c) n (tls us)) (h : us[k]? = some u) (hk : k < n) :
    w.cell? ⟨g, k * 9, none⟩ = some (.string u.z.d.nm) ∧ w.cell? ⟨g, k * 9 + 1, none⟩ = some (.int .i64 u.z.b) ∧ w.cell? ⟨g, k * 9 + 2, none⟩ = some (.int .i64 (u.z.b + (u.z.l + 1))) ∧ w.cell? ⟨g, k * 9 + 3, none⟩ = some (.int .i64 u.z.d.x) ∧ w.cell? ⟨g, k * 9 + 4, none⟩ = some (.int .i64 u.z.d.y) ∧ w.cell? ⟨g, k * 9 + 5, none⟩ = some (.int .i64 u.z.d.hd) ∧ w.cell? ⟨g, k * 9 + 6, none⟩ = some (.int .i64 u.z.d.tl) ∧ w.cell? ⟨g, k * 9 + 7, none⟩ = some (.int .i64 u.z.l) ∧ w.cell? ⟨g, k * 9 + 8, none⟩ = some (.complex .f32 u.re u.im) :=
  have g := tls_get h
  ⟨(o.cellAt (k * 9) (by omega)).trans g.1, (o.cellAt (k * 9 + 1) (by omega)).trans g.2.1, (o.cellAt (k * 9 + 2) (by omega)).trans g.2.2.1, (o.cellAt (k * 9 + 3) (by omega)).trans g.2.2.2.1, (o.cellAt (k * 9 + 4) (by omega)).trans g.2.2.2.2.1, (o.cellAt (k * 9 + 5) (by omega)).trans g.2.2.2.2.2.1, (o.cellAt (k * 9 + 6) (by omega)).trans g.2.2.2.2.2.2.1, (o.cellAt (k * 9 + 7) (by omega)).trans g.2.2.2.2.2.2.2.1, (o.cellAt (k * 9 + 8) (by omega)).trans g.2.2.2.2.2.2.2.2⟩
theorem l1Max (a b : Int) (w : World) : Calls Tryz.prog 44 #[.int .i64 a, .int .i64 b] w fun e w' => e = .returned (.int .i64 (max a b)) ∧ w = w' := by
  by_cases h : b < a
  · have e : max a b = a := by omega
    rw [e]
    go_enter Tryz.func44, Tryz.ntmps44
    go_wp2
    all_goals go_returns
    all_goals first | exact ⟨rfl, rfl⟩ | (exfalso; omega)
  · have e : max a b = b := by omega
    rw [e]
    go_enter Tryz.func44, Tryz.ntmps44
    go_wp2
    all_goals go_returns
    all_goals first | exact ⟨rfl, rfl⟩ | (refine ⟨?_, rfl⟩; congr 2; omega)

set_option maxRecDepth 100000 in
set_option maxHeartbeats 4000000 in
theorem thrownS (A0 : Option Addr) (n0 c0 : Nat) (A1 : Option Addr) (n1 c1 : Nat) (A2 : Option Addr) (n2 c2 : Nat) (T : Int) (ds : List D) (cs : List C) (gs : List G) (t : Int) (w : World) (hf : Fit n0 n1 n2 ds cs gs) (hr : SR w A0 A1 A2 ds cs gs) (hsz : ∀ z ∈ ds, z.nm.size ≤ 1048576 ∧ z.ln.size ≤ 1048576) (hsc : ∀ z ∈ cs, z.nm.size ≤ 1048576) :
    Calls Tryz.prog 10 #[sv A0 n0 c0 A1 n1 c1 A2 n2 c2 T, .int .i64 t] w fun e w' => e = .returned (.int .i64 (cnt (thP t) (all9 ds cs gs T))) ∧ Below w.heap.size w w' := by
  have K0 := Lib.hid (Bk.new w (sc A0 n0 c0 A1 n1 c1 A2 n2 c2 T) 33)
  have B0 := Lib.hid ((Below.refl w.heap.size w).alloc (Nat.le_refl _) (.cells (sc A0 n0 c0 A1 n1 c1 A2 n2 c2 T) 33))
  have HS := Lib.hid (hr.below B0.out)
  obtain ⟨r, hrr⟩ : ∃ r, show9 ds cs gs T = r := ⟨_, rfl⟩
  have CS := Lib.hid (fun (W : World) (h : SR W A0 A1 A2 ds cs gs) => (by have := Sw9.isShowS A0 n0 c0 A1 n1 c1 A2 n2 c2 T ds cs gs W hf h hsz hsc; rw [hrr] at this; exact this : Calls Tryz.prog 31 #[sv A0 n0 c0 A1 n1 c1 A2 n2 c2 T] W fun e w' => e = .returned (.bool r) ∧ Below W.heap.size W w'))
  have hu : undef = Value.tuple #[] := rfl
  cases r
  · rw [all9_no hrr]
    clear hf hr hrr hsz hsc
    go_enter Tryz.func10, Tryz.ntmps10
    go_wp2_with fail
    refine (CS.out _ HS.out).mono ?_
    rintro e w1 ⟨rfl, hb⟩
    have B1 := Lib.hid (B0.out.trans (hb.mono B0.out.size))
    clear hb CS HS K0 B0
    go_wp2_with fail
    go_ret
    exact ⟨rfl, B1.out⟩
  obtain ⟨zs, hzs⟩ : ∃ zs, all9 ds cs gs T = zs := ⟨_, rfl⟩
  obtain ⟨m, hm⟩ : ∃ m, zs.length = m := ⟨_, rfl⟩
  have hmb : m ≤ 512 := all_len9 (by rw [hzs]; exact hm)
  have HZ := Lib.hid (show ∀ z ∈ zs, jt z.d.x z.d.y z.d.hd z.d.tl z.l = true ∧ z.b < 64 from fun z hz => z_in (by rw [hzs]; exact hz))
  have CA := Lib.hid (fun (W : World) (h : SR W A0 A1 A2 ds cs gs) => (by have := Tm9.l9All A0 n0 c0 A1 n1 c1 A2 n2 c2 T ds cs gs W hf h hrr; unfold RowM at this; rw [hzs, hm] at this; exact this :
    Calls Tryz.prog 32 #[sv A0 n0 c0 A1 n1 c1 A2 n2 c2 T] W (fun e w' => ∃ g c, e = .returned (.slice (some ⟨g, 0, none⟩) m c) ∧ w'.ownsRow W.heap.size 55 7 (.slice (some ⟨g, 0, none⟩) m c) m (bls zs) ∧ Below W.heap.size W w')))
  rw [hzs]
  have HM := Lib.hid hm
  clear hf hr hrr hsz hsc hzs hm
  go_enter Tryz.func10, Tryz.ntmps10
  go_wp2_with fail
  refine (CS.out _ HS.out).mono ?_
  rintro e w1 ⟨rfl, hb⟩
  have B1 := Lib.hid (B0.out.trans (hb.mono B0.out.size))
  have S1 := Lib.hid (HS.out.below hb)
  have K1 := Lib.hid (K0.out.below hb)
  have b0 := K1.out.cell (i := 0) rfl
  have b1 := K1.out.cell (i := 1) rfl
  have b2 := K1.out.cell (i := 2) rfl
  have b3 := K1.out.cell (i := 3) rfl
  clear hb CS HS K0 B0 K1
  go_wp2_with fail
  refine (CA.out _ S1.out).mono ?_
  rintro e w2 ⟨g, c, rfl, o, hb⟩
  have B2 := Lib.hid (B1.out.trans (hb.mono B1.out.size))
  have O2 := Lib.hid (owns_base o (Nat.le_trans B1.out.size (o.lt g rfl).1))
  clear hb o CA S1 B1 b0 b1 b2 b3
  go_wp2_with fail
  go_loopw [5, 15] (fun v i wr => ∃ k : Nat, k ≤ m ∧ i = .int .i64 k ∧ (∃ x : Int, v = .int .i64 x ∧ Hid (x = (cnt (thP t) (zs.take k)))) ∧ Hid (wr.ownsRow w.heap.size 55 7 (.slice (some ⟨g, 0, none⟩) m c) m (bls zs)) ∧ Hid (Below w.heap.size w wr)) (fun _ i _ => m - (intOf i).toNat)
  case atStart => exact ⟨0, Nat.zero_le _, rfl, ⟨_, rfl, Lib.hid rfl⟩, O2, B2⟩
  case round =>
    obtain ⟨k, hk, rfl, ⟨x, rfl, HX⟩, OK, BK⟩ := hrel
    clear O2 B2
    by_cases hlt : k < m
    · obtain ⟨z, hz⟩ : ∃ z, zs[k]? = some z := ⟨_, List.getElem?_eq_getElem (by rw [HM.out]; exact hlt)⟩
      obtain ⟨c0, c1, c2, c3, c4, c5, c6⟩ := cB OK.out hz hlt
      have HV := Lib.hid hz
      have hj := HZ.out z (List.mem_of_getElem? hz)
      have O1 := Lib.hid (OK.out.alloc (.cells (bca z) 55))
      have B1 := Lib.hid (BK.out.alloc BK.out.size (.cells (bca z) 55))
      clear hz OK BK
      have hx0 := cnt_le (thP t) (zs.take k)
      have hxl : (zs.take k).length ≤ m := by rw [List.length_take, HM.out]; omega
      by_cases hc : (z.b : Int) ≤ t
      · have E := Lib.hid (show x + 1 = cnt (thP t) (zs.take (k + 1)) by rw [cnt_take HV.out, HX.out, if_pos (show thP t z = true from decide_eq_true hc)])
        have hx1 : 0 ≤ x ∧ x ≤ 512 := by have := HX.out; omega
        clear HX hx0 hxl
        go_wp2_with fail
        go_roundw
        case rel => exact ⟨k + 1, by omega, by go_num, ⟨_, rfl, E⟩, O1, B1⟩
        case measure => simp [intOf]; omega
      · have E := Lib.hid (show x = cnt (thP t) (zs.take (k + 1)) by rw [cnt_take HV.out, HX.out, if_neg (show ¬ thP t z = true from fun h => hc (of_decide_eq_true h))])
        clear HX hx0 hxl
        go_wp2_with fail
        go_roundw
        case rel => exact ⟨k + 1, by omega, by go_num, ⟨_, rfl, E⟩, O1, B1⟩
        case measure => simp [intOf]; omega
    · obtain rfl : k = m := by omega
      have E := Lib.hid (show x = (cnt (thP t) zs) by rw [HX.out, ← HM.out, List.take_length])
      clear OK HX
      go_wp2_with fail
      go_ret
      exact ⟨Sq.ret_int E.out, BK.out⟩

set_option maxRecDepth 100000 in
set_option maxHeartbeats 4000000 in
theorem landedS (A0 : Option Addr) (n0 c0 : Nat) (A1 : Option Addr) (n1 c1 : Nat) (A2 : Option Addr) (n2 c2 : Nat) (T : Int) (ds : List D) (cs : List C) (gs : List G) (t : Int) (w : World) (hf : Fit n0 n1 n2 ds cs gs) (hr : SR w A0 A1 A2 ds cs gs) (hsz : ∀ z ∈ ds, z.nm.size ≤ 1048576 ∧ z.ln.size ≤ 1048576) (hsc : ∀ z ∈ cs, z.nm.size ≤ 1048576) :
    Calls Tryz.prog 14 #[sv A0 n0 c0 A1 n1 c1 A2 n2 c2 T, .int .i64 t] w fun e w' => e = .returned (.int .i64 (cnt (laP t) (all9 ds cs gs T))) ∧ Below w.heap.size w w' := by
  have K0 := Lib.hid (Bk.new w (sc A0 n0 c0 A1 n1 c1 A2 n2 c2 T) 33)
  have B0 := Lib.hid ((Below.refl w.heap.size w).alloc (Nat.le_refl _) (.cells (sc A0 n0 c0 A1 n1 c1 A2 n2 c2 T) 33))
  have HS := Lib.hid (hr.below B0.out)
  obtain ⟨r, hrr⟩ : ∃ r, show9 ds cs gs T = r := ⟨_, rfl⟩
  have CS := Lib.hid (fun (W : World) (h : SR W A0 A1 A2 ds cs gs) => (by have := Sw9.isShowS A0 n0 c0 A1 n1 c1 A2 n2 c2 T ds cs gs W hf h hsz hsc; rw [hrr] at this; exact this : Calls Tryz.prog 31 #[sv A0 n0 c0 A1 n1 c1 A2 n2 c2 T] W fun e w' => e = .returned (.bool r) ∧ Below W.heap.size W w'))
  have hu : undef = Value.tuple #[] := rfl
  cases r
  · rw [all9_no hrr]
    clear hf hr hrr hsz hsc
    go_enter Tryz.func14, Tryz.ntmps14
    go_wp2_with fail
    refine (CS.out _ HS.out).mono ?_
    rintro e w1 ⟨rfl, hb⟩
    have B1 := Lib.hid (B0.out.trans (hb.mono B0.out.size))
    clear hb CS HS K0 B0
    go_wp2_with fail
    go_ret
    exact ⟨rfl, B1.out⟩
  obtain ⟨zs, hzs⟩ : ∃ zs, all9 ds cs gs T = zs := ⟨_, rfl⟩
  obtain ⟨m, hm⟩ : ∃ m, zs.length = m := ⟨_, rfl⟩
  have hmb : m ≤ 512 := all_len9 (by rw [hzs]; exact hm)
  have HZ := Lib.hid (show ∀ z ∈ zs, jt z.d.x z.d.y z.d.hd z.d.tl z.l = true ∧ z.b < 64 from fun z hz => z_in (by rw [hzs]; exact hz))
  have CA := Lib.hid (fun (W : World) (h : SR W A0 A1 A2 ds cs gs) => (by have := Tm9.l9All A0 n0 c0 A1 n1 c1 A2 n2 c2 T ds cs gs W hf h hrr; unfold RowM at this; rw [hzs, hm] at this; exact this :
    Calls Tryz.prog 32 #[sv A0 n0 c0 A1 n1 c1 A2 n2 c2 T] W (fun e w' => ∃ g c, e = .returned (.slice (some ⟨g, 0, none⟩) m c) ∧ w'.ownsRow W.heap.size 55 7 (.slice (some ⟨g, 0, none⟩) m c) m (bls zs) ∧ Below W.heap.size W w')))
  rw [hzs]
  have HM := Lib.hid hm
  clear hf hr hrr hsz hsc hzs hm
  go_enter Tryz.func14, Tryz.ntmps14
  go_wp2_with fail
  refine (CS.out _ HS.out).mono ?_
  rintro e w1 ⟨rfl, hb⟩
  have B1 := Lib.hid (B0.out.trans (hb.mono B0.out.size))
  have S1 := Lib.hid (HS.out.below hb)
  have K1 := Lib.hid (K0.out.below hb)
  have b0 := K1.out.cell (i := 0) rfl
  have b1 := K1.out.cell (i := 1) rfl
  have b2 := K1.out.cell (i := 2) rfl
  have b3 := K1.out.cell (i := 3) rfl
  clear hb CS HS K0 B0 K1
  go_wp2_with fail
  refine (CA.out _ S1.out).mono ?_
  rintro e w2 ⟨g, c, rfl, o, hb⟩
  have B2 := Lib.hid (B1.out.trans (hb.mono B1.out.size))
  have O2 := Lib.hid (owns_base o (Nat.le_trans B1.out.size (o.lt g rfl).1))
  clear hb o CA S1 B1 b0 b1 b2 b3
  go_wp2_with fail
  go_loopw [5, 15] (fun v i wr => ∃ k : Nat, k ≤ m ∧ i = .int .i64 k ∧ (∃ x : Int, v = .int .i64 x ∧ Hid (x = (cnt (laP t) (zs.take k)))) ∧ Hid (wr.ownsRow w.heap.size 55 7 (.slice (some ⟨g, 0, none⟩) m c) m (bls zs)) ∧ Hid (Below w.heap.size w wr)) (fun _ i _ => m - (intOf i).toNat)
  case atStart => exact ⟨0, Nat.zero_le _, rfl, ⟨_, rfl, Lib.hid rfl⟩, O2, B2⟩
  case round =>
    obtain ⟨k, hk, rfl, ⟨x, rfl, HX⟩, OK, BK⟩ := hrel
    clear O2 B2
    by_cases hlt : k < m
    · obtain ⟨z, hz⟩ : ∃ z, zs[k]? = some z := ⟨_, List.getElem?_eq_getElem (by rw [HM.out]; exact hlt)⟩
      obtain ⟨c0, c1, c2, c3, c4, c5, c6⟩ := cB OK.out hz hlt
      have HV := Lib.hid hz
      have hj := HZ.out z (List.mem_of_getElem? hz)
      have O1 := Lib.hid (OK.out.alloc (.cells (bca z) 55))
      have B1 := Lib.hid (BK.out.alloc BK.out.size (.cells (bca z) 55))
      clear hz OK BK
      have hx0 := cnt_le (laP t) (zs.take k)
      have hxl : (zs.take k).length ≤ m := by rw [List.length_take, HM.out]; omega
      have hx1 : 0 ≤ x ∧ x ≤ 512 := by have := HX.out; omega
      have hl9 := (jt_iff.1 hj.1).2.2.2.2
      have hb9 := hj.2
      have CF := Lib.hid (fun (W : World) => (by have := flightS z.d.x z.d.y z.d.hd z.d.tl z.l W; rw [fl_yes hj.1] at this; exact this : Calls Tryz.prog 41 #[jv z.d.x z.d.y z.d.hd z.d.tl z.l] W fun e w' => e = .returned (.int .i64 (z.l + 1)) ∧ Below W.heap.size W w'))
      have s2 : IntKind.i64.wrap ((z.b : Int) + (z.l + 1)) = (z.b : Int) + (z.l + 1) := IntWalk.i64_in _ (by omega)
      clear hx0 hxl hj
      go_upto_region 7 with fail
      have KE := Bk.new wr (bca z) 55
      have e1 := KE.cell (i := 1) rfl
      have e2 := KE.cell (i := 2) rfl
      have e3 := KE.cell (i := 3) rfl
      have e4 := KE.cell (i := 4) rfl
      have e5 := KE.cell (i := 5) rfl
      have e6 := KE.cell (i := 6) rfl
      clear KE c0 c1 c2 c3 c4 c5 c6
      refine wp_region_noPanic ?_
      refine wp_region_held_drew (S := (fun w' => w'.cell? ⟨wr.heap.size, 1, none⟩ = some (.int .i64 (z.b : Int)) ∧ w'.cell? ⟨wr.heap.size, 2, none⟩ = some (.int .i64 z.d.x) ∧ w'.cell? ⟨wr.heap.size, 3, none⟩ = some (.int .i64 z.d.y) ∧ w'.cell? ⟨wr.heap.size, 4, none⟩ = some (.int .i64 z.d.hd) ∧ w'.cell? ⟨wr.heap.size, 5, none⟩ = some (.int .i64 z.d.tl) ∧ w'.cell? ⟨wr.heap.size, 6, none⟩ = some (.int .i64 z.l) ∧ Below (wr.alloc (.cells (bca z) 55)).heap.size (wr.alloc (.cells (bca z) 55)) w')) (by kernel_rfl) ?_ (fun hH => ?_)
      · exact ⟨e1, e2, e3, e4, e5, e6, (Below.refl _ _).drew⟩
      refine wpAnyH_take (i := 0) (oi := { dst := some 19, op := _, type := _, pos := _, after := _, guard := _ }) (v := ?_) rfl (by kernel_rfl) (by kernel_rfl) (by kernel_rfl) (fun _ _ _ h => h) (Or.inl ⟨by rfl, ?_⟩) hH ?_
      rotate_left 1
      · intro W hSw
        (try dsimp only at hSw)
        go_simp
        (try with_reducible rfl)
      try simp only [Act.put, List.setIfInBounds_toArray, List.set_cons_zero, List.set_cons_succ]
      refine wpAnyH_take (i := 1) (oi := { dst := some 20, op := _, type := _, pos := _, after := _, guard := _ }) (v := ?_) rfl (by kernel_rfl) (by kernel_rfl) (by kernel_rfl) (fun _ _ _ h => h) (Or.inl ⟨by rfl, ?_⟩) hH ?_
      rotate_left 1
      · intro W hSw
        (try dsimp only at hSw)
        go_simp
        (try with_reducible rfl)
      try simp only [Act.put, List.setIfInBounds_toArray, List.set_cons_zero, List.set_cons_succ]
      refine wpAnyH_take (i := 2) (oi := { dst := some 21, op := _, type := _, pos := _, after := _, guard := _ }) (v := ?_) rfl (by kernel_rfl) (by kernel_rfl) (by kernel_rfl) (fun _ _ _ h => h) (Or.inl ⟨by rfl, ?_⟩) hH ?_
      rotate_left 1
      · intro W hSw
        (try dsimp only at hSw)
        go_simp
        (try with_reducible rfl)
      try simp only [Act.put, List.setIfInBounds_toArray, List.set_cons_zero, List.set_cons_succ]
      refine wpAnyH_take (i := 3) (oi := { dst := some 22, op := _, type := _, pos := _, after := _, guard := _ }) (v := ?_) rfl (by kernel_rfl) (by kernel_rfl) (by kernel_rfl) (fun _ _ _ h => h) (Or.inl ⟨by rfl, ?_⟩) hH ?_
      rotate_left 1
      · intro W hSw
        (try dsimp only at hSw)
        go_simp
        (try with_reducible rfl)
      try simp only [Act.put, List.setIfInBounds_toArray, List.set_cons_zero, List.set_cons_succ]
      refine wpAnyH_take (i := 6) (oi := { dst := some 25, op := _, type := _, pos := _, after := _, guard := _ }) (v := ?_) rfl (by kernel_rfl) (by kernel_rfl) (by kernel_rfl) (fun _ _ _ h => h) (Or.inl ⟨by rfl, ?_⟩) hH ?_
      rotate_left 1
      · intro W hSw
        (try dsimp only at hSw)
        go_simp
        (try with_reducible rfl)
      try simp only [Act.put, List.setIfInBounds_toArray, List.set_cons_zero, List.set_cons_succ]
      refine wpAnyH_ready (rs := [4]) (by kernel_rfl) (by simp) (AllReadyH.cons rfl (fun K hK => ?_) AllReadyH.nil)
      go_simp
      go_at_call 41; ((with_reducible refine (CF.out _).mono ?_); rintro e r1 ⟨rfl, hb1⟩); go_wp2_with fail
      refine hK.out _ _ ?_ (fun hG => ?_)
      · exact ⟨cell_below hb1 hH.1, cell_below hb1 hH.2.1, cell_below hb1 hH.2.2.1, cell_below hb1 hH.2.2.2.1, cell_below hb1 hH.2.2.2.2.1, cell_below hb1 hH.2.2.2.2.2.1, hH.2.2.2.2.2.2.trans (hb1.mono hH.2.2.2.2.2.2.size)⟩
      replace hH := hG
      clear hK K hG
      try simp only [Act.put, List.setIfInBounds_toArray, List.set_cons_zero, List.set_cons_succ]
      refine wpAnyH_take (i := 5) (oi := { dst := some 24, op := _, type := _, pos := _, after := _, guard := _ }) (v := ?_) rfl (by kernel_rfl) (by kernel_rfl) (by kernel_rfl) (fun _ _ _ h => h) (Or.inl ⟨by rfl, ?_⟩) hH ?_
      rotate_left 1
      · intro W hSw
        (try dsimp only at hSw)
        go_simp
        (try with_reducible rfl)
      try simp only [Act.put, List.setIfInBounds_toArray, List.set_cons_zero, List.set_cons_succ]
      refine wpAnyH_take (i := 7) (oi := { dst := some 26, op := _, type := _, pos := _, after := _, guard := _ }) (v := ?_) rfl (by kernel_rfl) (by kernel_rfl) (by kernel_rfl) (fun _ _ _ h => h) (Or.inl ⟨by rfl, ?_⟩) hH ?_
      rotate_left 1
      · intro W hSw
        (try dsimp only at hSw)
        go_simp
        (try with_reducible rfl)
      try simp only [Act.put, List.setIfInBounds_toArray, List.set_cons_zero, List.set_cons_succ]
      refine wpAnyH_done (by kernel_rfl) ?_ _
      refine NoPanic.normal ?_
      have hb := hH.2.2.2.2.2.2
      have O3 := Lib.hid (owns_below O1.out hb)
      have B3 := Lib.hid (B1.out.trans (hb.mono B1.out.size))
      clear hH hb hb1 e1 e2 e3 e4 e5 e6 O1 B1
      by_cases hc : (z.b : Int) + (z.l + 1) ≤ t
      · have E := Lib.hid (show x + 1 = cnt (laP t) (zs.take (k + 1)) by rw [cnt_take HV.out, HX.out, if_pos (show laP t z = true from decide_eq_true hc)])
        clear HX
        go_wp2_with fail
        go_roundw
        case rel => exact ⟨k + 1, by omega, by go_num, ⟨_, rfl, E⟩, O3, B3⟩
        case measure => simp [intOf]; omega
      · have E := Lib.hid (show x = cnt (laP t) (zs.take (k + 1)) by rw [cnt_take HV.out, HX.out, if_neg (show ¬ laP t z = true from fun h => hc (of_decide_eq_true h))])
        clear HX
        go_wp2_with fail
        go_roundw
        case rel => exact ⟨k + 1, by omega, by go_num, ⟨_, rfl, E⟩, O3, B3⟩
        case measure => simp [intOf]; omega
    · obtain rfl : k = m := by omega
      have E := Lib.hid (show x = (cnt (laP t) zs) by rw [HX.out, ← HM.out, List.take_length])
      clear OK HX
      go_wp2_with fail
      go_ret
      exact ⟨Sq.ret_int E.out, BK.out⟩

set_option maxRecDepth 100000 in
set_option maxHeartbeats 4000000 in
theorem highS (A0 : Option Addr) (n0 c0 : Nat) (A1 : Option Addr) (n1 c1 : Nat) (A2 : Option Addr) (n2 c2 : Nat) (T : Int) (ds : List D) (cs : List C) (gs : List G) (w : World) (hf : Fit n0 n1 n2 ds cs gs) (hr : SR w A0 A1 A2 ds cs gs) (hsz : ∀ z ∈ ds, z.nm.size ≤ 1048576 ∧ z.ln.size ≤ 1048576) (hsc : ∀ z ∈ cs, z.nm.size ≤ 1048576) :
    Calls Tryz.prog 16 #[sv A0 n0 c0 A1 n1 c1 A2 n2 c2 T] w fun e w' => e = .returned (.int .i64 (hi9 (all9 ds cs gs T))) ∧ Below w.heap.size w w' := by
  have K0 := Lib.hid (Bk.new w (sc A0 n0 c0 A1 n1 c1 A2 n2 c2 T) 33)
  have B0 := Lib.hid ((Below.refl w.heap.size w).alloc (Nat.le_refl _) (.cells (sc A0 n0 c0 A1 n1 c1 A2 n2 c2 T) 33))
  have HS := Lib.hid (hr.below B0.out)
  obtain ⟨r, hrr⟩ : ∃ r, show9 ds cs gs T = r := ⟨_, rfl⟩
  have CS := Lib.hid (fun (W : World) (h : SR W A0 A1 A2 ds cs gs) => (by have := Sw9.isShowS A0 n0 c0 A1 n1 c1 A2 n2 c2 T ds cs gs W hf h hsz hsc; rw [hrr] at this; exact this : Calls Tryz.prog 31 #[sv A0 n0 c0 A1 n1 c1 A2 n2 c2 T] W fun e w' => e = .returned (.bool r) ∧ Below W.heap.size W w'))
  have hu : undef = Value.tuple #[] := rfl
  cases r
  · rw [all9_no hrr]
    clear hf hr hrr hsz hsc
    go_enter Tryz.func16, Tryz.ntmps16
    go_wp2_with fail
    refine (CS.out _ HS.out).mono ?_
    rintro e w1 ⟨rfl, hb⟩
    have B1 := Lib.hid (B0.out.trans (hb.mono B0.out.size))
    clear hb CS HS K0 B0
    go_wp2_with fail
    go_ret
    exact ⟨rfl, B1.out⟩
  obtain ⟨zs, hzs⟩ : ∃ zs, all9 ds cs gs T = zs := ⟨_, rfl⟩
  obtain ⟨m, hm⟩ : ∃ m, zs.length = m := ⟨_, rfl⟩
  have hmb : m ≤ 512 := all_len9 (by rw [hzs]; exact hm)
  have HZ := Lib.hid (show ∀ z ∈ zs, jt z.d.x z.d.y z.d.hd z.d.tl z.l = true ∧ z.b < 64 from fun z hz => z_in (by rw [hzs]; exact hz))
  have CA := Lib.hid (fun (W : World) (h : SR W A0 A1 A2 ds cs gs) => (by have := Tm9.l9All A0 n0 c0 A1 n1 c1 A2 n2 c2 T ds cs gs W hf h hrr; unfold RowM at this; rw [hzs, hm] at this; exact this :
    Calls Tryz.prog 32 #[sv A0 n0 c0 A1 n1 c1 A2 n2 c2 T] W (fun e w' => ∃ g c, e = .returned (.slice (some ⟨g, 0, none⟩) m c) ∧ w'.ownsRow W.heap.size 55 7 (.slice (some ⟨g, 0, none⟩) m c) m (bls zs) ∧ Below W.heap.size W w')))
  rw [hzs]
  have HM := Lib.hid hm
  clear hf hr hrr hsz hsc hzs hm
  go_enter Tryz.func16, Tryz.ntmps16
  go_wp2_with fail
  refine (CS.out _ HS.out).mono ?_
  rintro e w1 ⟨rfl, hb⟩
  have B1 := Lib.hid (B0.out.trans (hb.mono B0.out.size))
  have S1 := Lib.hid (HS.out.below hb)
  have K1 := Lib.hid (K0.out.below hb)
  have b0 := K1.out.cell (i := 0) rfl
  have b1 := K1.out.cell (i := 1) rfl
  have b2 := K1.out.cell (i := 2) rfl
  have b3 := K1.out.cell (i := 3) rfl
  clear hb CS HS K0 B0 K1
  go_wp2_with fail
  refine (CA.out _ S1.out).mono ?_
  rintro e w2 ⟨g, c, rfl, o, hb⟩
  have B2 := Lib.hid (B1.out.trans (hb.mono B1.out.size))
  have O2 := Lib.hid (owns_base o (Nat.le_trans B1.out.size (o.lt g rfl).1))
  clear hb o CA S1 B1 b0 b1 b2 b3
  go_wp2_with fail
  go_loopw [3, 15] (fun v i wr => ∃ k : Nat, k ≤ m ∧ i = .int .i64 k ∧ (∃ x : Int, v = .int .i64 x ∧ Hid (x = (hi9 (zs.take k)))) ∧ Hid (wr.ownsRow w.heap.size 55 7 (.slice (some ⟨g, 0, none⟩) m c) m (bls zs)) ∧ Hid (Below w.heap.size w wr)) (fun _ i _ => m - (intOf i).toNat)
  case atStart => exact ⟨0, Nat.zero_le _, rfl, ⟨_, rfl, Lib.hid rfl⟩, O2, B2⟩
  case round =>
    obtain ⟨k, hk, rfl, ⟨x, rfl, HX⟩, OK, BK⟩ := hrel
    clear O2 B2
    by_cases hlt : k < m
    · obtain ⟨z, hz⟩ : ∃ z, zs[k]? = some z := ⟨_, List.getElem?_eq_getElem (by rw [HM.out]; exact hlt)⟩
      obtain ⟨c0, c1, c2, c3, c4, c5, c6⟩ := cB OK.out hz hlt
      have HV := Lib.hid hz
      have hj := HZ.out z (List.mem_of_getElem? hz)
      have O1 := Lib.hid (OK.out.alloc (.cells (bca z) 55))
      have B1 := Lib.hid (BK.out.alloc BK.out.size (.cells (bca z) 55))
      clear hz OK BK
      have CP := Lib.hid (fun (W : World) => peakS z.d.x z.d.y z.d.hd z.d.tl z.l W)
      have E := Lib.hid (show max x (ph z) = hi9 (zs.take (k + 1)) by rw [hi_take HV.out, HX.out])
      unfold ph at E
      clear HX hj
      go_wp2_with fail
      refine (CP.out _).mono ?_
      rintro e u1 ⟨rfl, hb⟩
      have O3 := Lib.hid (owns_below O1.out hb)
      have B3 := Lib.hid (B1.out.trans (hb.mono B1.out.size))
      clear hb O1 B1 CP c0 c1 c2 c3 c4 c5 c6
      unfold peakV
      go_wp2_with fail
      refine (l1Max _ _ _).mono ?_
      rintro e u2 ⟨rfl, hw2⟩
      cases hw2
      go_wp2_with fail
      go_roundw
      case rel => exact ⟨k + 1, by omega, by go_num, ⟨_, rfl, E⟩, O3, B3⟩
      case measure => simp [intOf]; omega
    · obtain rfl : k = m := by omega
      have E := Lib.hid (show x = (hi9 zs) by rw [HX.out, ← HM.out, List.take_length])
      clear OK HX
      go_wp2_with fail
      go_ret
      exact ⟨Sq.ret_int E.out, BK.out⟩

set_option maxRecDepth 100000 in
set_option maxHeartbeats 4000000 in
theorem waterS (A0 : Option Addr) (n0 c0 : Nat) (A1 : Option Addr) (n1 c1 : Nat) (A2 : Option Addr) (n2 c2 : Nat) (T : Int) (ds : List D) (cs : List C) (gs : List G) (w : World) (hf : Fit n0 n1 n2 ds cs gs) (hr : SR w A0 A1 A2 ds cs gs) (hsz : ∀ z ∈ ds, z.nm.size ≤ 1048576 ∧ z.ln.size ≤ 1048576) (hsc : ∀ z ∈ cs, z.nm.size ≤ 1048576) :
    Calls Tryz.prog 18 #[sv A0 n0 c0 A1 n1 c1 A2 n2 c2 T] w fun e w' => e = .returned (.int .i64 (wat (all9 ds cs gs T))) ∧ Below w.heap.size w w' := by
  have K0 := Lib.hid (Bk.new w (sc A0 n0 c0 A1 n1 c1 A2 n2 c2 T) 33)
  have B0 := Lib.hid ((Below.refl w.heap.size w).alloc (Nat.le_refl _) (.cells (sc A0 n0 c0 A1 n1 c1 A2 n2 c2 T) 33))
  have HS := Lib.hid (hr.below B0.out)
  obtain ⟨r, hrr⟩ : ∃ r, show9 ds cs gs T = r := ⟨_, rfl⟩
  have CS := Lib.hid (fun (W : World) (h : SR W A0 A1 A2 ds cs gs) => (by have := Sw9.isShowS A0 n0 c0 A1 n1 c1 A2 n2 c2 T ds cs gs W hf h hsz hsc; rw [hrr] at this; exact this : Calls Tryz.prog 31 #[sv A0 n0 c0 A1 n1 c1 A2 n2 c2 T] W fun e w' => e = .returned (.bool r) ∧ Below W.heap.size W w'))
  have hu : undef = Value.tuple #[] := rfl
  cases r
  · rw [all9_no hrr]
    clear hf hr hrr hsz hsc
    go_enter Tryz.func18, Tryz.ntmps18
    go_wp2_with fail
    refine (CS.out _ HS.out).mono ?_
    rintro e w1 ⟨rfl, hb⟩
    have B1 := Lib.hid (B0.out.trans (hb.mono B0.out.size))
    clear hb CS HS K0 B0
    go_wp2_with fail
    go_ret
    exact ⟨rfl, B1.out⟩
  obtain ⟨zs, hzs⟩ : ∃ zs, all9 ds cs gs T = zs := ⟨_, rfl⟩
  obtain ⟨m, hm⟩ : ∃ m, zs.length = m := ⟨_, rfl⟩
  have hmb : m ≤ 512 := all_len9 (by rw [hzs]; exact hm)
  have HZ := Lib.hid (show ∀ z ∈ zs, jt z.d.x z.d.y z.d.hd z.d.tl z.l = true ∧ z.b < 64 from fun z hz => z_in (by rw [hzs]; exact hz))
  have CA := Lib.hid (fun (W : World) (h : SR W A0 A1 A2 ds cs gs) => (by have := Tm9.l9All A0 n0 c0 A1 n1 c1 A2 n2 c2 T ds cs gs W hf h hrr; unfold RowM at this; rw [hzs, hm] at this; exact this :
    Calls Tryz.prog 32 #[sv A0 n0 c0 A1 n1 c1 A2 n2 c2 T] W (fun e w' => ∃ g c, e = .returned (.slice (some ⟨g, 0, none⟩) m c) ∧ w'.ownsRow W.heap.size 55 7 (.slice (some ⟨g, 0, none⟩) m c) m (bls zs) ∧ Below W.heap.size W w')))
  rw [hzs]
  have HM := Lib.hid hm
  clear hf hr hrr hsz hsc hzs hm
  go_enter Tryz.func18, Tryz.ntmps18
  go_wp2_with fail
  refine (CS.out _ HS.out).mono ?_
  rintro e w1 ⟨rfl, hb⟩
  have B1 := Lib.hid (B0.out.trans (hb.mono B0.out.size))
  have S1 := Lib.hid (HS.out.below hb)
  have K1 := Lib.hid (K0.out.below hb)
  have b0 := K1.out.cell (i := 0) rfl
  have b1 := K1.out.cell (i := 1) rfl
  have b2 := K1.out.cell (i := 2) rfl
  have b3 := K1.out.cell (i := 3) rfl
  clear hb CS HS K0 B0 K1
  go_wp2_with fail
  refine (CA.out _ S1.out).mono ?_
  rintro e w2 ⟨g, c, rfl, o, hb⟩
  have B2 := Lib.hid (B1.out.trans (hb.mono B1.out.size))
  have O2 := Lib.hid (owns_base o (Nat.le_trans B1.out.size (o.lt g rfl).1))
  clear hb o CA S1 B1 b0 b1 b2 b3
  go_wp2_with fail
  go_loopw [3, 13] (fun v i wr => ∃ k : Nat, k ≤ m ∧ i = .int .i64 k ∧ (∃ x : Int, v = .int .i64 x ∧ Hid (x = (wat (zs.take k)))) ∧ Hid (wr.ownsRow w.heap.size 55 7 (.slice (some ⟨g, 0, none⟩) m c) m (bls zs)) ∧ Hid (Below w.heap.size w wr)) (fun _ i _ => m - (intOf i).toNat)
  case atStart => exact ⟨0, Nat.zero_le _, rfl, ⟨_, rfl, Lib.hid rfl⟩, O2, B2⟩
  case round =>
    obtain ⟨k, hk, rfl, ⟨x, rfl, HX⟩, OK, BK⟩ := hrel
    clear O2 B2
    by_cases hlt : k < m
    · obtain ⟨z, hz⟩ : ∃ z, zs[k]? = some z := ⟨_, List.getElem?_eq_getElem (by rw [HM.out]; exact hlt)⟩
      obtain ⟨c0, c1, c2, c3, c4, c5, c6⟩ := cB OK.out hz hlt
      have HV := Lib.hid hz
      have hj := HZ.out z (List.mem_of_getElem? hz)
      have O1 := Lib.hid (OK.out.alloc (.cells (bca z) 55))
      have B1 := Lib.hid (BK.out.alloc BK.out.size (.cells (bca z) 55))
      clear hz OK BK
      have E := Lib.hid (show x + z.l = wat (zs.take (k + 1)) by rw [wat_take HV.out, HX.out])
      have hl9 := (jt_iff.1 hj.1).2.2.2.2
      have hx0 := wat_le (zs.take k) fun y hy => by have := (jt_iff.1 (HZ.out y (List.mem_of_mem_take hy)).1).2.2.2.2; omega
      have hxl : (zs.take k).length ≤ m := by rw [List.length_take, HM.out]; omega
      have hx1 : 0 ≤ x ∧ x ≤ 16384 := by have := HX.out; omega
      clear HX hj hx0 hxl
      go_wp2_with fail
      go_roundw
      case rel => exact ⟨k + 1, by omega, by go_num, ⟨_, rfl, E⟩, O1, B1⟩
      case measure => simp [intOf]; omega
    · obtain rfl : k = m := by omega
      have E := Lib.hid (show x = (wat zs) by rw [HX.out, ← HM.out, List.take_length])
      clear OK HX
      go_wp2_with fail
      go_ret
      exact ⟨Sq.ret_int E.out, BK.out⟩
end Go.Proofs.YtkndejjfndjcoabGreat.Tn9
