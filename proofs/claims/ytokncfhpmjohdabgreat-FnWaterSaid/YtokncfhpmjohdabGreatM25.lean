/- How many drops are thrown and have landed, how high they go, how much water they take. -/
import Derived.Test.YtokncfhpmjohdabGreatM23
import Derived.Test.YtokncfhpmjohdabGreatM24
import Derived.Lib.MinMax
set_option linter.unusedVariables false
set_option linter.unusedSimpArgs false
namespace Go.Proofs.YtokncfhpmjohdabGreat.Tn9
open Go.RowKit Go.ChangeShapes Go.WideShapes Go.WideElems Go.Deep Go.Proofs.YtokncfhpmjohdabGreat.Mem Go.Proofs.YtokncfhpmjohdabGreat.Rw Go.Proofs.YtokncfhpmjohdabGreat.P2 Go.Proofs.YtokncfhpmjohdabGreat.Bk Go.Proofs.YtokncfhpmjohdabGreat.Sp Go.Proofs.YtokncfhpmjohdabGreat.Sq Go.Proofs.YtokncfhpmjohdabGreat.Jt Go.Proofs.YtokncfhpmjohdabGreat.Cm Go.Proofs.YtokncfhpmjohdabGreat.Cx Go.Proofs.YtokncfhpmjohdabGreat.Pl
open Go.Proofs.YtokncfhpmjohdabGreat.Sv hiding D C G
open Go.Proofs.YtokncfhpmjohdabGreat.Ig (rig)
set_option linter.unusedVariables false
set_option linter.unusedSimpArgs false
open Go.Proofs.YtokncfhpmjohdabGreat.Wp (RowI rd_cell)
open Go.Proofs.YtokncfhpmjohdabGreat.Dp
open Go.Proofs.YtokncfhpmjohdabGreat.Tw9
open Go.Proofs.YtokncfhpmjohdabGreat.Tm9 (bls bls_get RowM)
abbrev tv (u : T9) : Value := .agg #[.string u.z.d.nm, .int .i64 u.z.b, .int .i64 (u.z.b + (u.z.l + 1)), .int .i64 u.z.d.x, .int .i64 u.z.d.y, .int .i64 u.z.d.hd, .int .i64 u.z.d.tl, .int .i64 u.z.l, .complex .f32 u.re u.im]
abbrev tca (u : T9) : Array Value := #[.string u.z.d.nm, .int .i64 u.z.b, .int .i64 (u.z.b + (u.z.l + 1)), .int .i64 u.z.d.x, .int .i64 u.z.d.y, .int .i64 u.z.d.hd, .int .i64 u.z.d.tl, .int .i64 u.z.l, .complex .f32 u.re u.im]
abbrev bca (u : B) : Array Value := #[.string u.d.nm, .int .i64 u.b, .int .i64 u.d.x, .int .i64 u.d.y, .int .i64 u.d.hd, .int .i64 u.d.tl, .int .i64 u.l]

/-- How many drops there are of which this holds. -/
def cnt (p : B → Bool) (zs : List B) : Int := ((zs.filter p).length : Int)
theorem cnt_take {p : B → Bool} {zs : List B} {k : Nat} {z : B} (h : zs[k]? = some z) : cnt p (zs.take (k + 1)) = if p z then cnt p (zs.take k) + 1 else cnt p (zs.take k) := by
  obtain ⟨hk, rfl⟩ := List.getElem?_eq_some_iff.1 h
  unfold cnt
  rw [List.take_succ_eq_append_getElem hk, List.filter_append]
  cases e : p zs[k] <;> simp [e]
theorem cnt_le (p : B → Bool) (zs : List B) : 0 ≤ cnt p zs ∧ cnt p zs ≤ zs.length := by
  unfold cnt; have := List.length_filter_le p zs; omega
def thP (t : Int) (z : B) : Bool := decide ((z.b : Int) ≤ t)
def laP (t : Int) (z : B) : Bool := decide ((z.b : Int) + (z.l + 1) ≤ t)
/-- The water of drops. -/
def wat : List B → Int
  | [] => 0
  | z :: r => z.l + wat r
theorem wat_app : ∀ (a b : List B), wat (a ++ b) = wat a + wat b
  | [], b => by simp [wat]
  | z :: a, b => by rw [List.cons_append, wat, wat, wat_app a b]; omega
theorem wat_take {zs : List B} {k : Nat} {z : B} (h : zs[k]? = some z) : wat (zs.take (k + 1)) = wat (zs.take k) + z.l := by
  obtain ⟨hk, rfl⟩ := List.getElem?_eq_some_iff.1 h
  rw [List.take_succ_eq_append_getElem hk, wat_app]; simp [wat]
theorem wat_le : ∀ (zs : List B), (∀ z ∈ zs, 1 ≤ z.l ∧ z.l ≤ 32) → 0 ≤ wat zs ∧ wat zs ≤ 32 * (zs.length : Int)
  | [], _ => ⟨Int.le_refl _, Int.le_refl _⟩
  | z :: r, h => by
    have h1 := h z (List.mem_cons_self ..)
    have h2 := wat_le r fun y hy => h y (List.mem_cons_of_mem _ hy)
    rw [wat, List.length_cons]; omega
/-- How high a drop goes. -/
def ph (z : B) : Int := ha z.d.x z.d.y z.d.hd z.d.tl z.l (pk z.d.x z.d.y z.d.hd z.d.tl z.l)
def hi9 (zs : List B) : Int := zs.foldl (fun n z => max n (ph z)) 0
theorem all_len9 {ds : List D} {cs : List C} {gs : List G} {T : Int} {m : Nat} (h : (all9 ds cs gs T).length = m) : m ≤ 512 := by rw [← h]; exact all9_len ds cs gs T
theorem z_in {ds : List D} {cs : List C} {gs : List G} {T : Int} {z : B} (h : z ∈ all9 ds cs gs T) : jt z.d.x z.d.y z.d.hd z.d.tl z.l = true ∧ z.b < 64 := ⟨(all9_ok z h).1.1, (all9_ok z h).2⟩
theorem map_get {ts : List T9} {zs : List B} {k : Nat} {u : T9} (h : ts.map T9.z = zs) (hu : ts[k]? = some u) : zs[k]? = some u.z := by rw [← h, List.getElem?_map, hu]; rfl
theorem cB {w : World} {base g n c k : Nat} {zs : List B} {z : B} (o : w.ownsRow base 77 7 (.slice (some ⟨g, 0, none⟩) n c) n (bls zs)) (h : zs[k]? = some z) (hk : k < n) :
    w.cell? ⟨g, k * 7, none⟩ = some (.string z.d.nm) ∧ w.cell? ⟨g, k * 7 + 1, none⟩ = some (.int .i64 z.b) ∧ w.cell? ⟨g, k * 7 + 2, none⟩ = some (.int .i64 z.d.x) ∧ w.cell? ⟨g, k * 7 + 3, none⟩ = some (.int .i64 z.d.y) ∧ w.cell? ⟨g, k * 7 + 4, none⟩ = some (.int .i64 z.d.hd) ∧ w.cell? ⟨g, k * 7 + 5, none⟩ = some (.int .i64 z.d.tl) ∧ w.cell? ⟨g, k * 7 + 6, none⟩ = some (.int .i64 z.l) :=
  have g := bls_get h
  ⟨(o.cellAt (k * 7) (by omega)).trans g.1, (o.cellAt (k * 7 + 1) (by omega)).trans g.2.1, (o.cellAt (k * 7 + 2) (by omega)).trans g.2.2.1, (o.cellAt (k * 7 + 3) (by omega)).trans g.2.2.2.1, (o.cellAt (k * 7 + 4) (by omega)).trans g.2.2.2.2.1, (o.cellAt (k * 7 + 5) (by omega)).trans g.2.2.2.2.2.1, (o.cellAt (k * 7 + 6) (by omega)).trans g.2.2.2.2.2.2⟩
theorem cT {w : World} {base g n c k : Nat} {us : List T9} {u : T9} (o : w.ownsRow base 73 9 (.slice (some ⟨g, 0, none⟩) n c) n (tls us)) (h : us[k]? = some u) (hk : k < n) :
    w.cell? ⟨g, k * 9, none⟩ = some (.string u.z.d.nm) ∧ w.cell? ⟨g, k * 9 + 1, none⟩ = some (.int .i64 u.z.b) ∧ w.cell? ⟨g, k * 9 + 2, none⟩ = some (.int .i64 (u.z.b + (u.z.l + 1))) ∧ w.cell? ⟨g, k * 9 + 3, none⟩ = some (.int .i64 u.z.d.x) ∧ w.cell? ⟨g, k * 9 + 4, none⟩ = some (.int .i64 u.z.d.y) ∧ w.cell? ⟨g, k * 9 + 5, none⟩ = some (.int .i64 u.z.d.hd) ∧ w.cell? ⟨g, k * 9 + 6, none⟩ = some (.int .i64 u.z.d.tl) ∧ w.cell? ⟨g, k * 9 + 7, none⟩ = some (.int .i64 u.z.l) ∧ w.cell? ⟨g, k * 9 + 8, none⟩ = some (.complex .f32 u.re u.im) :=
  have g := tls_get h
  ⟨(o.cellAt (k * 9) (by omega)).trans g.1, (o.cellAt (k * 9 + 1) (by omega)).trans g.2.1, (o.cellAt (k * 9 + 2) (by omega)).trans g.2.2.1, (o.cellAt (k * 9 + 3) (by omega)).trans g.2.2.2.1, (o.cellAt (k * 9 + 4) (by omega)).trans g.2.2.2.2.1, (o.cellAt (k * 9 + 5) (by omega)).trans g.2.2.2.2.2.1, (o.cellAt (k * 9 + 6) (by omega)).trans g.2.2.2.2.2.2.1, (o.cellAt (k * 9 + 7) (by omega)).trans g.2.2.2.2.2.2.2.1, (o.cellAt (k * 9 + 8) (by omega)).trans g.2.2.2.2.2.2.2.2⟩
set_option maxRecDepth 100000 in
set_option maxHeartbeats 4000000 in
theorem thrownS (A0 : Option Addr) (n0 c0 : Nat) (A1 : Option Addr) (n1 c1 : Nat) (A2 : Option Addr) (n2 c2 : Nat) (T : Int) (ds : List D) (cs : List C) (gs : List G) (t : Int) (w : World) (hf : Fit n0 n1 n2 ds cs gs) (hr : SR w A0 A1 A2 ds cs gs) (hsz : ∀ z ∈ ds, z.nm.size ≤ 1048576 ∧ z.ln.size ≤ 1048576) (hsc : ∀ z ∈ cs, z.nm.size ≤ 1048576) :
    Calls Tryz.prog 22 #[sv A0 n0 c0 A1 n1 c1 A2 n2 c2 T, .int .i64 t] w fun e w' => e = .returned (.int .i64 (cnt (thP t) (all9 ds cs gs T))) ∧ Below w.heap.size w w' := by
  have K0 := Lib.hid (Bk.new w (sc A0 n0 c0 A1 n1 c1 A2 n2 c2 T) 28)
  have B0 := Lib.hid ((Below.refl w.heap.size w).alloc (Nat.le_refl _) (.cells (sc A0 n0 c0 A1 n1 c1 A2 n2 c2 T) 28))
  have HS := Lib.hid (hr.below B0.out)
  obtain ⟨r, hrr⟩ : ∃ r, show9 ds cs gs T = r := ⟨_, rfl⟩
  have CS := Lib.hid (fun (W : World) (h : SR W A0 A1 A2 ds cs gs) => (by have := Sw9.isShowS A0 n0 c0 A1 n1 c1 A2 n2 c2 T ds cs gs W hf h hsz hsc; rw [hrr] at this; exact this : Calls Tryz.prog 38 #[sv A0 n0 c0 A1 n1 c1 A2 n2 c2 T] W fun e w' => e = .returned (.bool r) ∧ Below W.heap.size W w'))
  have hu : undef = Value.tuple #[] := rfl
  cases r
  · rw [all9_no hrr]
    clear hf hr hrr hsz hsc
    go_enter Tryz.func22, Tryz.ntmps22
    go_wp2_with fail
    refine (CS.out _ HS.out).mono ?_
    rintro e w1 ⟨rfl, hb⟩
    have B1 := Lib.hid (B0.out.trans (hb.mono B0.out.size))
    clear hb CS HS K0 B0
    go_wp2_with fail
    go_ret
    exact ⟨rfl, B1.out⟩
  obtain ⟨zs, hzs⟩ : ∃ zs, all9 ds cs gs T = zs := ⟨_, rfl⟩
  obtain ⟨m, hm⟩ : ∃ m, zs.length = m := ⟨_, rfl⟩
  have hmb : m ≤ 512 := all_len9 (by rw [hzs]; exact hm)
  have HZ := Lib.hid (show ∀ z ∈ zs, jt z.d.x z.d.y z.d.hd z.d.tl z.l = true ∧ z.b < 64 from fun z hz => z_in (by rw [hzs]; exact hz))
  have CA := Lib.hid (fun (W : World) (h : SR W A0 A1 A2 ds cs gs) => (by have := Tm9.l9All A0 n0 c0 A1 n1 c1 A2 n2 c2 T ds cs gs W hf h hrr; unfold RowM at this; rw [hzs, hm] at this; exact this :
    Calls Tryz.prog 39 #[sv A0 n0 c0 A1 n1 c1 A2 n2 c2 T] W (fun e w' => ∃ g c, e = .returned (.slice (some ⟨g, 0, none⟩) m c) ∧ w'.ownsRow W.heap.size 77 7 (.slice (some ⟨g, 0, none⟩) m c) m (bls zs) ∧ Below W.heap.size W w')))
  rw [hzs]
  have HM := Lib.hid hm
  clear hf hr hrr hsz hsc hzs hm
  go_enter Tryz.func22, Tryz.ntmps22
  go_wp2_with fail
  refine (CS.out _ HS.out).mono ?_
  rintro e w1 ⟨rfl, hb⟩
  have B1 := Lib.hid (B0.out.trans (hb.mono B0.out.size))
  have S1 := Lib.hid (HS.out.below hb)
  have K1 := Lib.hid (K0.out.below hb)
  have b0 := K1.out.cell (i := 0) rfl
  have b1 := K1.out.cell (i := 1) rfl
  have b2 := K1.out.cell (i := 2) rfl
  have b3 := K1.out.cell (i := 3) rfl
  clear hb CS HS K0 B0 K1
  go_wp2_with fail
  refine (CA.out _ S1.out).mono ?_
  rintro e w2 ⟨g, c, rfl, o, hb⟩
  have B2 := Lib.hid (B1.out.trans (hb.mono B1.out.size))
  have O2 := Lib.hid (owns_base o (Nat.le_trans B1.out.size (o.lt g rfl).1))
  clear hb o CA S1 B1 b0 b1 b2 b3
  go_wp2_with fail
  go_loopw [5, 15] (fun v i wr => ∃ k : Nat, k ≤ m ∧ i = .int .i64 k ∧ (∃ x : Int, v = .int .i64 x ∧ Hid (x = (cnt (thP t) (zs.take k)))) ∧ Hid (wr.ownsRow w.heap.size 77 7 (.slice (some ⟨g, 0, none⟩) m c) m (bls zs)) ∧ Hid (Below w.heap.size w wr)) (fun _ i _ => m - (intOf i).toNat)
  case atStart => exact ⟨0, Nat.zero_le _, rfl, ⟨_, rfl, Lib.hid rfl⟩, O2, B2⟩
  case round =>
    obtain ⟨k, hk, rfl, ⟨x, rfl, HX⟩, OK, BK⟩ := hrel
    clear O2 B2
    by_cases hlt : k < m
    · obtain ⟨z, hz⟩ : ∃ z, zs[k]? = some z := ⟨_, List.getElem?_eq_getElem (by rw [HM.out]; exact hlt)⟩
      obtain ⟨c0, c1, c2, c3, c4, c5, c6⟩ := cB OK.out hz hlt
      have HV := Lib.hid hz
      have hj := HZ.out z (List.mem_of_getElem? hz)
      have O1 := Lib.hid (OK.out.alloc (.cells (bca z) 77))
      have B1 := Lib.hid (BK.out.alloc BK.out.size (.cells (bca z) 77))
      clear hz OK BK
      have hx0 := cnt_le (thP t) (zs.take k)
      have hxl : (zs.take k).length ≤ m := by rw [List.length_take, HM.out]; omega
      by_cases hc : (z.b : Int) ≤ t
      · have E := Lib.hid (show x + 1 = cnt (thP t) (zs.take (k + 1)) by rw [cnt_take HV.out, HX.out, if_pos (show thP t z = true from decide_eq_true hc)])
        have hx1 : 0 ≤ x ∧ x ≤ 512 := by have := HX.out; omega
        clear HX hx0 hxl
        go_wp2_with fail
        go_roundw
        case rel => exact ⟨k + 1, by omega, by go_num, ⟨_, rfl, E⟩, O1, B1⟩
        case measure => simp [intOf]; omega
      · have E := Lib.hid (show x = cnt (thP t) (zs.take (k + 1)) by rw [cnt_take HV.out, HX.out, if_neg (show ¬ thP t z = true from fun h => hc (of_decide_eq_true h))])
        clear HX hx0 hxl
        go_wp2_with fail
        go_roundw
        case rel => exact ⟨k + 1, by omega, by go_num, ⟨_, rfl, E⟩, O1, B1⟩
        case measure => simp [intOf]; omega
    · obtain rfl : k = m := by omega
      have E := Lib.hid (show x = (cnt (thP t) zs) by rw [HX.out, ← HM.out, List.take_length])
      clear OK HX
      go_wp2_with fail
      go_ret
      exact ⟨Sq.ret_int E.out, BK.out⟩

set_option maxRecDepth 100000 in
set_option maxHeartbeats 4000000 in
theorem waterS (A0 : Option Addr) (n0 c0 : Nat) (A1 : Option Addr) (n1 c1 : Nat) (A2 : Option Addr) (n2 c2 : Nat) (T : Int) (ds : List D) (cs : List C) (gs : List G) (w : World) (hf : Fit n0 n1 n2 ds cs gs) (hr : SR w A0 A1 A2 ds cs gs) (hsz : ∀ z ∈ ds, z.nm.size ≤ 1048576 ∧ z.ln.size ≤ 1048576) (hsc : ∀ z ∈ cs, z.nm.size ≤ 1048576) :
    Calls Tryz.prog 14 #[sv A0 n0 c0 A1 n1 c1 A2 n2 c2 T] w fun e w' => e = .returned (.int .i64 (wat (all9 ds cs gs T))) ∧ Below w.heap.size w w' := by
  have K0 := Lib.hid (Bk.new w (sc A0 n0 c0 A1 n1 c1 A2 n2 c2 T) 28)
  have B0 := Lib.hid ((Below.refl w.heap.size w).alloc (Nat.le_refl _) (.cells (sc A0 n0 c0 A1 n1 c1 A2 n2 c2 T) 28))
  have HS := Lib.hid (hr.below B0.out)
  obtain ⟨r, hrr⟩ : ∃ r, show9 ds cs gs T = r := ⟨_, rfl⟩
  have CS := Lib.hid (fun (W : World) (h : SR W A0 A1 A2 ds cs gs) => (by have := Sw9.isShowS A0 n0 c0 A1 n1 c1 A2 n2 c2 T ds cs gs W hf h hsz hsc; rw [hrr] at this; exact this : Calls Tryz.prog 38 #[sv A0 n0 c0 A1 n1 c1 A2 n2 c2 T] W fun e w' => e = .returned (.bool r) ∧ Below W.heap.size W w'))
  have hu : undef = Value.tuple #[] := rfl
  cases r
  · rw [all9_no hrr]
    clear hf hr hrr hsz hsc
    go_enter Tryz.func14, Tryz.ntmps14
    go_wp2_with fail
    refine (CS.out _ HS.out).mono ?_
    rintro e w1 ⟨rfl, hb⟩
    have B1 := Lib.hid (B0.out.trans (hb.mono B0.out.size))
    clear hb CS HS K0 B0
    go_wp2_with fail
    go_ret
    exact ⟨rfl, B1.out⟩
  obtain ⟨zs, hzs⟩ : ∃ zs, all9 ds cs gs T = zs := ⟨_, rfl⟩
  obtain ⟨m, hm⟩ : ∃ m, zs.length = m := ⟨_, rfl⟩
  have hmb : m ≤ 512 := all_len9 (by rw [hzs]; exact hm)
  have HZ := Lib.hid (show ∀ z ∈ zs, jt z.d.x z.d.y z.d.hd z.d.tl z.l = true ∧ z.b < 64 from fun z hz => z_in (by rw [hzs]; exact hz))
  have CA := Lib.hid (fun (W : World) (h : SR W A0 A1 A2 ds cs gs) => (by have := Tm9.l9All A0 n0 c0 A1 n1 c1 A2 n2 c2 T ds cs gs W hf h hrr; unfold RowM at this; rw [hzs, hm] at this; exact this :
    Calls Tryz.prog 39 #[sv A0 n0 c0 A1 n1 c1 A2 n2 c2 T] W (fun e w' => ∃ g c, e = .returned (.slice (some ⟨g, 0, none⟩) m c) ∧ w'.ownsRow W.heap.size 77 7 (.slice (some ⟨g, 0, none⟩) m c) m (bls zs) ∧ Below W.heap.size W w')))
  rw [hzs]
  have HM := Lib.hid hm
  clear hf hr hrr hsz hsc hzs hm
  go_enter Tryz.func14, Tryz.ntmps14
  go_wp2_with fail
  refine (CS.out _ HS.out).mono ?_
  rintro e w1 ⟨rfl, hb⟩
  have B1 := Lib.hid (B0.out.trans (hb.mono B0.out.size))
  have S1 := Lib.hid (HS.out.below hb)
  have K1 := Lib.hid (K0.out.below hb)
  have b0 := K1.out.cell (i := 0) rfl
  have b1 := K1.out.cell (i := 1) rfl
  have b2 := K1.out.cell (i := 2) rfl
  have b3 := K1.out.cell (i := 3) rfl
  clear hb CS HS K0 B0 K1
  go_wp2_with fail
  refine (CA.out _ S1.out).mono ?_
  rintro e w2 ⟨g, c, rfl, o, hb⟩
  have B2 := Lib.hid (B1.out.trans (hb.mono B1.out.size))
  have O2 := Lib.hid (owns_base o (Nat.le_trans B1.out.size (o.lt g rfl).1))
  clear hb o CA S1 B1 b0 b1 b2 b3
  go_wp2_with fail
  go_loopw [3, 13] (fun v i wr => ∃ k : Nat, k ≤ m ∧ i = .int .i64 k ∧ (∃ x : Int, v = .int .i64 x ∧ Hid (x = (wat (zs.take k)))) ∧ Hid (wr.ownsRow w.heap.size 77 7 (.slice (some ⟨g, 0, none⟩) m c) m (bls zs)) ∧ Hid (Below w.heap.size w wr)) (fun _ i _ => m - (intOf i).toNat)
  case atStart => exact ⟨0, Nat.zero_le _, rfl, ⟨_, rfl, Lib.hid rfl⟩, O2, B2⟩
  case round =>
    obtain ⟨k, hk, rfl, ⟨x, rfl, HX⟩, OK, BK⟩ := hrel
    clear O2 B2
    by_cases hlt : k < m
    · obtain ⟨z, hz⟩ : ∃ z, zs[k]? = some z := ⟨_, List.getElem?_eq_getElem (by rw [HM.out]; exact hlt)⟩
      obtain ⟨c0, c1, c2, c3, c4, c5, c6⟩ := cB OK.out hz hlt
      have HV := Lib.hid hz
      have hj := HZ.out z (List.mem_of_getElem? hz)
      have O1 := Lib.hid (OK.out.alloc (.cells (bca z) 77))
      have B1 := Lib.hid (BK.out.alloc BK.out.size (.cells (bca z) 77))
      clear hz OK BK
      have E := Lib.hid (show x + z.l = wat (zs.take (k + 1)) by rw [wat_take HV.out, HX.out])
      have hl9 := (jt_iff.1 hj.1).2.2.2.2
      have hx0 := wat_le (zs.take k) fun y hy => by have := (jt_iff.1 (HZ.out y (List.mem_of_mem_take hy)).1).2.2.2.2; omega
      have hxl : (zs.take k).length ≤ m := by rw [List.length_take, HM.out]; omega
      have hx1 : 0 ≤ x ∧ x ≤ 16384 := by have := HX.out; omega
      clear HX hj hx0 hxl
      go_wp2_with fail
      go_roundw
      case rel => exact ⟨k + 1, by omega, by go_num, ⟨_, rfl, E⟩, O1, B1⟩
      case measure => simp [intOf]; omega
    · obtain rfl : k = m := by omega
      have E := Lib.hid (show x = (wat zs) by rw [HX.out, ← HM.out, List.take_length])
      clear OK HX
      go_wp2_with fail
      go_ret
      exact ⟨Sq.ret_int E.out, BK.out⟩
end Go.Proofs.YtokncfhpmjohdabGreat.Tn9
namespace Go.Proofs.YtokncfhpmjohdabGreat.Tc9
open Go.RowKit Go.ChangeShapes Go.WideShapes Go.WideElems Go.Deep Go.Proofs.YtokncfhpmjohdabGreat.Mem Go.Proofs.YtokncfhpmjohdabGreat.Rw Go.Proofs.YtokncfhpmjohdabGreat.P2 Go.Proofs.YtokncfhpmjohdabGreat.Bk Go.Proofs.YtokncfhpmjohdabGreat.Sp Go.Proofs.YtokncfhpmjohdabGreat.Sq Go.Proofs.YtokncfhpmjohdabGreat.Jt Go.Proofs.YtokncfhpmjohdabGreat.Cm Go.Proofs.YtokncfhpmjohdabGreat.Cx Go.Proofs.YtokncfhpmjohdabGreat.Pl
open Go.Proofs.YtokncfhpmjohdabGreat.Sv hiding D C G
open Go.Proofs.YtokncfhpmjohdabGreat.Ig (rig)
set_option linter.unusedVariables false
set_option linter.unusedSimpArgs false
open Go.Proofs.YtokncfhpmjohdabGreat.Dp
open Go.Proofs.YtokncfhpmjohdabGreat.Tw9
open Go.Proofs.YtokncfhpmjohdabGreat.Tn9


set_option maxHeartbeats 1000000 in
theorem clT (t : Int) (pb : Nat) (u : T9) (W : World) (hp : W.cell? ⟨pb, 0, none⟩ = some (.int .i64 t)) : Calls Tryz.prog 54 #[tv u, .pointer (some ⟨pb, 0, none⟩)] W fun e w' => e = .returned (.bool (thP t u.z)) ∧ Below W.heap.size W w' := by
  have hlt := World.block_lt_of_cell? W _ hp
  unfold thP
  go_enter Tryz.func54, Tryz.ntmps54
  go_wp2
  all_goals go_returns
  all_goals exact ⟨rfl, by go_grown⟩

set_option maxHeartbeats 1000000 in
theorem clL (t : Int) (pb : Nat) (u : T9) (W : World) (hp : W.cell? ⟨pb, 0, none⟩ = some (.int .i64 t)) : Calls Tryz.prog 55 #[tv u, .pointer (some ⟨pb, 0, none⟩)] W fun e w' => e = .returned (.bool (laP t u.z)) ∧ Below W.heap.size W w' := by
  have hlt := World.block_lt_of_cell? W _ hp
  unfold laP
  go_enter Tryz.func55, Tryz.ntmps55
  go_wp2
  all_goals go_returns
  all_goals exact ⟨rfl, by go_grown⟩

set_option maxRecDepth 100000 in
set_option maxHeartbeats 4000000 in
theorem clTC (A0 : Option Addr) (n0 c0 : Nat) (A1 : Option Addr) (n1 c1 : Nat) (A2 : Option Addr) (n2 c2 : Nat) (T : Int) (ds : List D) (cs : List C) (gs : List G) (t : Int) (pb : Nat) (w : World) (hf : Fit n0 n1 n2 ds cs gs) (hr : SR w A0 A1 A2 ds cs gs) (hp : w.cell? ⟨pb, 0, none⟩ = some (.int .i64 t)) :
    Calls Tryz.prog 53 #[sv A0 n0 c0 A1 n1 c1 A2 n2 c2 T, .func (.func 54) #[] #[.pointer (some ⟨pb, 0, none⟩)]] w fun e w' => e = .returned (.int .i64 (cnt (thP t) (all9 ds cs gs T))) ∧ Below w.heap.size w w' := by
  have B0 := Lib.hid ((Below.refl w.heap.size w).alloc (Nat.le_refl _) (.cells (sc A0 n0 c0 A1 n1 c1 A2 n2 c2 T) 28))
  have HS := Lib.hid (hr.below B0.out)
  have hu : undef = Value.tuple #[] := rfl
  obtain ⟨zs, hzs⟩ : ∃ zs, all9 ds cs gs T = zs := ⟨_, rfl⟩
  obtain ⟨m, hm⟩ : ∃ m, zs.length = m := ⟨_, rfl⟩
  have hmb : m ≤ 512 := all_len9 (by rw [hzs]; exact hm)
  have HZ := Lib.hid (show ∀ z ∈ zs, jt z.d.x z.d.y z.d.hd z.d.tl z.l = true ∧ z.b < 64 from fun z hz => z_in (by rw [hzs]; exact hz))
  have CA := Lib.hid (fun (W : World) (h : SR W A0 A1 A2 ds cs gs) => (by have := Ti9.thrownIn A0 n0 c0 A1 n1 c1 A2 n2 c2 T ds cs gs W hf h; unfold RowT at this; rw [hzs, hm] at this; exact this :
    Calls Tryz.prog 37 #[sv A0 n0 c0 A1 n1 c1 A2 n2 c2 T] W (fun e w' => ∃ g c, e = .returned (.slice (some ⟨g, 0, none⟩) m c) ∧ Thr w' W.heap.size (.slice (some ⟨g, 0, none⟩) m c) m zs ∧ Below W.heap.size W w')))
  rw [hzs]
  have HM := Lib.hid hm
  have HPC := Lib.hid hp
  have HPB := Lib.hid (World.block_lt_of_cell? w _ hp)
  clear hp
  clear hf hr hzs hm
  go_enter Tryz.func53, Tryz.ntmps53
  go_wp2_with fail
  refine (CA.out _ HS.out).mono ?_
  rintro e w2 ⟨g, c, rfl, ⟨ts, ht1, ht2, ht3, o⟩, hb⟩
  have B2 := Lib.hid (B0.out.trans (hb.mono B0.out.size))
  have O2 := Lib.hid (owns_base o (Nat.le_trans B0.out.size (o.lt g rfl).1))
  have HT1 := Lib.hid ht1
  have HT3 := Lib.hid ht3
  clear hb o CA HS B0 ht1 ht2 ht3
  go_wp2_with fail
  go_loopw [5, 11] (fun v i wr => ∃ k : Nat, k ≤ m ∧ i = .int .i64 k ∧ (∃ x : Int, v = .int .i64 x ∧ Hid (x = (cnt (thP t) (zs.take k)))) ∧ Hid (wr.ownsRow w.heap.size 73 9 (.slice (some ⟨g, 0, none⟩) m c) m (tls ts)) ∧ Hid (Below w.heap.size w wr)) (fun _ i _ => m - (intOf i).toNat)
  case atStart => exact ⟨0, Nat.zero_le _, rfl, ⟨_, rfl, Lib.hid rfl⟩, O2, B2⟩
  case round =>
    obtain ⟨k, hk, rfl, ⟨x, rfl, HX⟩, OK, BK⟩ := hrel
    clear O2 B2
    by_cases hlt : k < m
    · obtain ⟨u, hu9⟩ : ∃ u, ts[k]? = some u := ⟨_, List.getElem?_eq_getElem (by rw [HT3.out]; exact hlt)⟩
      obtain ⟨c0, c1, c2, c3, c4, c5, c6, c7, c8⟩ := cT OK.out hu9 hlt
      have HV := Lib.hid (map_get HT1.out hu9)
      have hj := HZ.out u.z (List.mem_of_getElem? HV.out)
      have O1 := Lib.hid (OK.out.alloc (.cells (tca u) 73))
      have B1 := Lib.hid (BK.out.alloc BK.out.size (.cells (tca u) 73))
      clear hu9 OK BK
      have hx0 := cnt_le (thP t) (zs.take k)
      have hxl : (zs.take k).length ≤ m := by rw [List.length_take, HM.out]; omega
      have hx1 : 0 ≤ x ∧ x ≤ 512 := by have := HX.out; omega
      have CC := Lib.hid (clT t pb u (wr.alloc (.cells (tca u) 73)) (B1.out.cell (p := ⟨pb, 0, none⟩) HPB.out |>.trans HPC.out))
      obtain ⟨q, hq⟩ : ∃ q, thP t u.z = q := ⟨_, rfl⟩
      have HE := Lib.hid (show (if q then x + 1 else x) = cnt (thP t) (zs.take (k + 1)) by rw [cnt_take HV.out, HX.out, hq])
      rw [hq] at CC
      clear hx0 hxl hj HX hq
      go_wp2_with fail
      refine CC.out.mono ?_
      rintro e u1 ⟨rfl, hb⟩
      have O3 := Lib.hid (owns_below O1.out hb)
      have B3 := Lib.hid (B1.out.trans (hb.mono B1.out.size))
      clear hb O1 B1 CC c0 c1 c2 c3 c4 c5 c6 c7 c8
      cases q
      · have E : Hid (x = cnt (thP t) (zs.take (k + 1))) := HE
        clear HE
        go_wp2_with fail
        go_roundw
        case rel => exact ⟨k + 1, by omega, by go_num, ⟨_, rfl, E⟩, O3, B3⟩
        case measure => simp [intOf]; omega
      · have E : Hid (x + 1 = cnt (thP t) (zs.take (k + 1))) := HE
        clear HE
        go_wp2_with fail
        go_roundw
        case rel => exact ⟨k + 1, by omega, by go_num, ⟨_, rfl, E⟩, O3, B3⟩
        case measure => simp [intOf]; omega
    · obtain rfl : k = m := by omega
      have E := Lib.hid (show x = (cnt (thP t) zs) by rw [HX.out, ← HM.out, List.take_length])
      clear OK HX
      go_wp2_with fail
      go_ret
      exact ⟨Sq.ret_int E.out, BK.out⟩

set_option maxRecDepth 100000 in
set_option maxHeartbeats 4000000 in
theorem clLC (A0 : Option Addr) (n0 c0 : Nat) (A1 : Option Addr) (n1 c1 : Nat) (A2 : Option Addr) (n2 c2 : Nat) (T : Int) (ds : List D) (cs : List C) (gs : List G) (t : Int) (pb : Nat) (w : World) (hf : Fit n0 n1 n2 ds cs gs) (hr : SR w A0 A1 A2 ds cs gs) (hp : w.cell? ⟨pb, 0, none⟩ = some (.int .i64 t)) :
    Calls Tryz.prog 53 #[sv A0 n0 c0 A1 n1 c1 A2 n2 c2 T, .func (.func 55) #[] #[.pointer (some ⟨pb, 0, none⟩)]] w fun e w' => e = .returned (.int .i64 (cnt (laP t) (all9 ds cs gs T))) ∧ Below w.heap.size w w' := by
  have B0 := Lib.hid ((Below.refl w.heap.size w).alloc (Nat.le_refl _) (.cells (sc A0 n0 c0 A1 n1 c1 A2 n2 c2 T) 28))
  have HS := Lib.hid (hr.below B0.out)
  have hu : undef = Value.tuple #[] := rfl
  obtain ⟨zs, hzs⟩ : ∃ zs, all9 ds cs gs T = zs := ⟨_, rfl⟩
  obtain ⟨m, hm⟩ : ∃ m, zs.length = m := ⟨_, rfl⟩
  have hmb : m ≤ 512 := all_len9 (by rw [hzs]; exact hm)
  have HZ := Lib.hid (show ∀ z ∈ zs, jt z.d.x z.d.y z.d.hd z.d.tl z.l = true ∧ z.b < 64 from fun z hz => z_in (by rw [hzs]; exact hz))
  have CA := Lib.hid (fun (W : World) (h : SR W A0 A1 A2 ds cs gs) => (by have := Ti9.thrownIn A0 n0 c0 A1 n1 c1 A2 n2 c2 T ds cs gs W hf h; unfold RowT at this; rw [hzs, hm] at this; exact this :
    Calls Tryz.prog 37 #[sv A0 n0 c0 A1 n1 c1 A2 n2 c2 T] W (fun e w' => ∃ g c, e = .returned (.slice (some ⟨g, 0, none⟩) m c) ∧ Thr w' W.heap.size (.slice (some ⟨g, 0, none⟩) m c) m zs ∧ Below W.heap.size W w')))
  rw [hzs]
  have HM := Lib.hid hm
  have HPC := Lib.hid hp
  have HPB := Lib.hid (World.block_lt_of_cell? w _ hp)
  clear hp
  clear hf hr hzs hm
  go_enter Tryz.func53, Tryz.ntmps53
  go_wp2_with fail
  refine (CA.out _ HS.out).mono ?_
  rintro e w2 ⟨g, c, rfl, ⟨ts, ht1, ht2, ht3, o⟩, hb⟩
  have B2 := Lib.hid (B0.out.trans (hb.mono B0.out.size))
  have O2 := Lib.hid (owns_base o (Nat.le_trans B0.out.size (o.lt g rfl).1))
  have HT1 := Lib.hid ht1
  have HT3 := Lib.hid ht3
  clear hb o CA HS B0 ht1 ht2 ht3
  go_wp2_with fail
  go_loopw [5, 11] (fun v i wr => ∃ k : Nat, k ≤ m ∧ i = .int .i64 k ∧ (∃ x : Int, v = .int .i64 x ∧ Hid (x = (cnt (laP t) (zs.take k)))) ∧ Hid (wr.ownsRow w.heap.size 73 9 (.slice (some ⟨g, 0, none⟩) m c) m (tls ts)) ∧ Hid (Below w.heap.size w wr)) (fun _ i _ => m - (intOf i).toNat)
  case atStart => exact ⟨0, Nat.zero_le _, rfl, ⟨_, rfl, Lib.hid rfl⟩, O2, B2⟩
  case round =>
    obtain ⟨k, hk, rfl, ⟨x, rfl, HX⟩, OK, BK⟩ := hrel
    clear O2 B2
    by_cases hlt : k < m
    · obtain ⟨u, hu9⟩ : ∃ u, ts[k]? = some u := ⟨_, List.getElem?_eq_getElem (by rw [HT3.out]; exact hlt)⟩
      obtain ⟨c0, c1, c2, c3, c4, c5, c6, c7, c8⟩ := cT OK.out hu9 hlt
      have HV := Lib.hid (map_get HT1.out hu9)
      have hj := HZ.out u.z (List.mem_of_getElem? HV.out)
      have O1 := Lib.hid (OK.out.alloc (.cells (tca u) 73))
      have B1 := Lib.hid (BK.out.alloc BK.out.size (.cells (tca u) 73))
      clear hu9 OK BK
      have hx0 := cnt_le (laP t) (zs.take k)
      have hxl : (zs.take k).length ≤ m := by rw [List.length_take, HM.out]; omega
      have hx1 : 0 ≤ x ∧ x ≤ 512 := by have := HX.out; omega
      have CC := Lib.hid (clL t pb u (wr.alloc (.cells (tca u) 73)) (B1.out.cell (p := ⟨pb, 0, none⟩) HPB.out |>.trans HPC.out))
      obtain ⟨q, hq⟩ : ∃ q, laP t u.z = q := ⟨_, rfl⟩
      have HE := Lib.hid (show (if q then x + 1 else x) = cnt (laP t) (zs.take (k + 1)) by rw [cnt_take HV.out, HX.out, hq])
      rw [hq] at CC
      clear hx0 hxl hj HX hq
      go_wp2_with fail
      refine CC.out.mono ?_
      rintro e u1 ⟨rfl, hb⟩
      have O3 := Lib.hid (owns_below O1.out hb)
      have B3 := Lib.hid (B1.out.trans (hb.mono B1.out.size))
      clear hb O1 B1 CC c0 c1 c2 c3 c4 c5 c6 c7 c8
      cases q
      · have E : Hid (x = cnt (laP t) (zs.take (k + 1))) := HE
        clear HE
        go_wp2_with fail
        go_roundw
        case rel => exact ⟨k + 1, by omega, by go_num, ⟨_, rfl, E⟩, O3, B3⟩
        case measure => simp [intOf]; omega
      · have E : Hid (x + 1 = cnt (laP t) (zs.take (k + 1))) := HE
        clear HE
        go_wp2_with fail
        go_roundw
        case rel => exact ⟨k + 1, by omega, by go_num, ⟨_, rfl, E⟩, O3, B3⟩
        case measure => simp [intOf]; omega
    · obtain rfl : k = m := by omega
      have E := Lib.hid (show x = (cnt (laP t) zs) by rw [HX.out, ← HM.out, List.take_length])
      clear OK HX
      go_wp2_with fail
      go_ret
      exact ⟨Sq.ret_int E.out, BK.out⟩

set_option maxRecDepth 100000 in
set_option maxHeartbeats 2000000 in
theorem thrownI (A0 : Option Addr) (n0 c0 : Nat) (A1 : Option Addr) (n1 c1 : Nat) (A2 : Option Addr) (n2 c2 : Nat) (T : Int) (ds : List D) (cs : List C) (gs : List G) (t : Int) (w : World) (hf : Fit n0 n1 n2 ds cs gs) (hr : SR w A0 A1 A2 ds cs gs) :
    Calls Tryz.prog 21 #[sv A0 n0 c0 A1 n1 c1 A2 n2 c2 T, .int .i64 t] w fun e w' => e = .returned (.int .i64 (cnt (thP t) (all9 ds cs gs T))) ∧ Below w.heap.size w w' := by
  have B0a := (Below.refl w.heap.size w).alloc (Nat.le_refl _) (.cells (sc A0 n0 c0 A1 n1 c1 A2 n2 c2 T) 28)
  have B0 := Lib.hid (B0a.alloc B0a.size (.cells #[.int .i64 t] 3))
  have hz : (w.alloc (.cells (sc A0 n0 c0 A1 n1 c1 A2 n2 c2 T) 28)).heap.size = w.heap.size + 1 := by simp [go_sem]
  have KT := Bk.new (w.alloc (.cells (sc A0 n0 c0 A1 n1 c1 A2 n2 c2 T) 28)) #[.int .i64 t] 3
  rw [hz] at KT
  have CC := Lib.hid (clTC A0 n0 c0 A1 n1 c1 A2 n2 c2 T ds cs gs t (w.heap.size + 1) _ hf (hr.below B0.out) (KT.cell (i := 0) rfl))
  clear hf hr B0a hz KT
  go_enter Tryz.func21, Tryz.ntmps21
  go_wp2_with fail
  refine CC.out.mono ?_
  rintro e w1 ⟨rfl, hb⟩
  have B1 := Lib.hid (B0.out.trans (hb.mono B0.out.size))
  clear hb CC B0
  go_wp2_with fail
  go_ret
  exact ⟨rfl, B1.out⟩

set_option maxRecDepth 100000 in
set_option maxHeartbeats 2000000 in
theorem landedI (A0 : Option Addr) (n0 c0 : Nat) (A1 : Option Addr) (n1 c1 : Nat) (A2 : Option Addr) (n2 c2 : Nat) (T : Int) (ds : List D) (cs : List C) (gs : List G) (t : Int) (w : World) (hf : Fit n0 n1 n2 ds cs gs) (hr : SR w A0 A1 A2 ds cs gs) :
    Calls Tryz.prog 23 #[sv A0 n0 c0 A1 n1 c1 A2 n2 c2 T, .int .i64 t] w fun e w' => e = .returned (.int .i64 (cnt (laP t) (all9 ds cs gs T))) ∧ Below w.heap.size w w' := by
  have B0a := (Below.refl w.heap.size w).alloc (Nat.le_refl _) (.cells (sc A0 n0 c0 A1 n1 c1 A2 n2 c2 T) 28)
  have B0 := Lib.hid (B0a.alloc B0a.size (.cells #[.int .i64 t] 3))
  have hz : (w.alloc (.cells (sc A0 n0 c0 A1 n1 c1 A2 n2 c2 T) 28)).heap.size = w.heap.size + 1 := by simp [go_sem]
  have KT := Bk.new (w.alloc (.cells (sc A0 n0 c0 A1 n1 c1 A2 n2 c2 T) 28)) #[.int .i64 t] 3
  rw [hz] at KT
  have CC := Lib.hid (clLC A0 n0 c0 A1 n1 c1 A2 n2 c2 T ds cs gs t (w.heap.size + 1) _ hf (hr.below B0.out) (KT.cell (i := 0) rfl))
  clear hf hr B0a hz KT
  go_enter Tryz.func23, Tryz.ntmps23
  go_wp2_with fail
  refine CC.out.mono ?_
  rintro e w1 ⟨rfl, hb⟩
  have B1 := Lib.hid (B0.out.trans (hb.mono B0.out.size))
  clear hb CC B0
  go_wp2_with fail
  go_ret
  exact ⟨rfl, B1.out⟩

set_option maxRecDepth 100000 in
set_option maxHeartbeats 4000000 in
theorem waterI (A0 : Option Addr) (n0 c0 : Nat) (A1 : Option Addr) (n1 c1 : Nat) (A2 : Option Addr) (n2 c2 : Nat) (T : Int) (ds : List D) (cs : List C) (gs : List G) (w : World) (hf : Fit n0 n1 n2 ds cs gs) (hr : SR w A0 A1 A2 ds cs gs) :
    Calls Tryz.prog 13 #[sv A0 n0 c0 A1 n1 c1 A2 n2 c2 T] w fun e w' => e = .returned (.int .i64 (wat (all9 ds cs gs T))) ∧ Below w.heap.size w w' := by
  have B0 := Lib.hid ((Below.refl w.heap.size w).alloc (Nat.le_refl _) (.cells (sc A0 n0 c0 A1 n1 c1 A2 n2 c2 T) 28))
  have HS := Lib.hid (hr.below B0.out)
  have hu : undef = Value.tuple #[] := rfl
  obtain ⟨zs, hzs⟩ : ∃ zs, all9 ds cs gs T = zs := ⟨_, rfl⟩
  obtain ⟨m, hm⟩ : ∃ m, zs.length = m := ⟨_, rfl⟩
  have hmb : m ≤ 512 := all_len9 (by rw [hzs]; exact hm)
  have HZ := Lib.hid (show ∀ z ∈ zs, jt z.d.x z.d.y z.d.hd z.d.tl z.l = true ∧ z.b < 64 from fun z hz => z_in (by rw [hzs]; exact hz))
  have CA := Lib.hid (fun (W : World) (h : SR W A0 A1 A2 ds cs gs) => (by have := Ti9.thrownIn A0 n0 c0 A1 n1 c1 A2 n2 c2 T ds cs gs W hf h; unfold RowT at this; rw [hzs, hm] at this; exact this :
    Calls Tryz.prog 37 #[sv A0 n0 c0 A1 n1 c1 A2 n2 c2 T] W (fun e w' => ∃ g c, e = .returned (.slice (some ⟨g, 0, none⟩) m c) ∧ Thr w' W.heap.size (.slice (some ⟨g, 0, none⟩) m c) m zs ∧ Below W.heap.size W w')))
  rw [hzs]
  have HM := Lib.hid hm
  clear hf hr hzs hm
  go_enter Tryz.func13, Tryz.ntmps13
  go_wp2_with fail
  refine (CA.out _ HS.out).mono ?_
  rintro e w2 ⟨g, c, rfl, ⟨ts, ht1, ht2, ht3, o⟩, hb⟩
  have B2 := Lib.hid (B0.out.trans (hb.mono B0.out.size))
  have O2 := Lib.hid (owns_base o (Nat.le_trans B0.out.size (o.lt g rfl).1))
  have HT1 := Lib.hid ht1
  have HT3 := Lib.hid ht3
  clear hb o CA HS B0 ht1 ht2 ht3
  go_wp2_with fail
  go_loopw [3, 9] (fun v i wr => ∃ k : Nat, k ≤ m ∧ i = .int .i64 k ∧ (∃ x : Int, v = .int .i64 x ∧ Hid (x = (wat (zs.take k)))) ∧ Hid (wr.ownsRow w.heap.size 73 9 (.slice (some ⟨g, 0, none⟩) m c) m (tls ts)) ∧ Hid (Below w.heap.size w wr)) (fun _ i _ => m - (intOf i).toNat)
  case atStart => exact ⟨0, Nat.zero_le _, rfl, ⟨_, rfl, Lib.hid rfl⟩, O2, B2⟩
  case round =>
    obtain ⟨k, hk, rfl, ⟨x, rfl, HX⟩, OK, BK⟩ := hrel
    clear O2 B2
    by_cases hlt : k < m
    · obtain ⟨u, hu9⟩ : ∃ u, ts[k]? = some u := ⟨_, List.getElem?_eq_getElem (by rw [HT3.out]; exact hlt)⟩
      obtain ⟨c0, c1, c2, c3, c4, c5, c6, c7, c8⟩ := cT OK.out hu9 hlt
      have HV := Lib.hid (map_get HT1.out hu9)
      have hj := HZ.out u.z (List.mem_of_getElem? HV.out)
      have O1 := Lib.hid (OK.out.alloc (.cells (tca u) 73))
      have B1 := Lib.hid (BK.out.alloc BK.out.size (.cells (tca u) 73))
      clear hu9 OK BK
      have E := Lib.hid (show x + u.z.l = wat (zs.take (k + 1)) by rw [wat_take HV.out, HX.out])
      have hl9 := (jt_iff.1 hj.1).2.2.2.2
      have hx0 := wat_le (zs.take k) fun y hy => by have := (jt_iff.1 (HZ.out y (List.mem_of_mem_take hy)).1).2.2.2.2; omega
      have hxl : (zs.take k).length ≤ m := by rw [List.length_take, HM.out]; omega
      have hx1 : 0 ≤ x ∧ x ≤ 16384 := by have := HX.out; omega
      clear HX hj hx0 hxl
      go_wp2_with fail
      go_roundw
      case rel => exact ⟨k + 1, by omega, by go_num, ⟨_, rfl, E⟩, O1, B1⟩
      case measure => simp [intOf]; omega
    · obtain rfl : k = m := by omega
      have E := Lib.hid (show x = (wat zs) by rw [HX.out, ← HM.out, List.take_length])
      clear OK HX
      go_wp2_with fail
      go_ret
      exact ⟨Sq.ret_int E.out, BK.out⟩
end Go.Proofs.YtokncfhpmjohdabGreat.Tc9
