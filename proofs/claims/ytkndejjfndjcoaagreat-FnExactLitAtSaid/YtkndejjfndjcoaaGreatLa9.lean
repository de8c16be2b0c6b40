/- LiftsAt of the program and of the model. -/
import Derived.Test.YtkndejjfndjcoaaGreatLi9
import Derived.Test.YtkndejjfndjcoaaGreatLg9
namespace Go.Proofs.YtkndejjfndjcoaaGreat.La9
open Go.RowKit Go.ChangeShapes Go.WideShapes Go.WideElems Go.Deep Go.Proofs.YtkndejjfndjcoaaGreat.Mem Go.Proofs.YtkndejjfndjcoaaGreat.Rw Go.Proofs.YtkndejjfndjcoaaGreat.P2 Go.Proofs.YtkndejjfndjcoaaGreat.Bk Go.Proofs.YtkndejjfndjcoaaGreat.Sp Go.Proofs.YtkndejjfndjcoaaGreat.Sq Go.Proofs.YtkndejjfndjcoaaGreat.Jt
open Go.Proofs.YtkndejjfndjcoaaGreat.Sv hiding D C G
open Go.Proofs.YtkndejjfndjcoaaGreat.Wp (RowI row_nil)
open Go.Proofs.YtkndejjfndjcoaaGreat.Lf9 (row_of)
set_option linter.unusedVariables false
set_option linter.unusedSimpArgs false

/-- The lifts of a show, or none. -/
noncomputable def laV (ds : List D) (cs : List C) (gs : List G) (T t : Int) : List Int := if show9 ds cs gs T = true then lifts ds cs T t else []
theorem laV_yes {ds : List D} {cs : List C} {gs : List G} {T : Int} (t : Int) (h : show9 ds cs gs T = true) : laV ds cs gs T t = lifts ds cs T t := if_pos h
theorem laV_no {ds : List D} {cs : List C} {gs : List G} {T : Int} (t : Int) (h : show9 ds cs gs T = false) : laV ds cs gs T t = [] := if_neg (by rw [h]; decide)
theorem laV_len (ds : List D) (cs : List C) (gs : List G) (T t : Int) : (laV ds cs gs T t).length ≤ ds.length := by
  unfold laV; split
  · rw [lifts_len]; exact Nat.le_refl _
  · exact Nat.zero_le _
theorem row_base {w u w' : World} {l : List Int} {e : Ending} (h : RowI u l e w') (hb : Below w.heap.size w u) : RowI w l e w' := by
  obtain ⟨g, c, rfl, o, b⟩ := h
  exact ⟨g, c, rfl, owns_base o (Nat.le_trans hb.size (o.lt g rfl).1), hb.trans (b.mono hb.size)⟩

set_option maxRecDepth 100000 in
set_option maxHeartbeats 2000000 in
theorem liftsAtS (A0 : Option Addr) (n0 c0 : Nat) (A1 : Option Addr) (n1 c1 : Nat) (A2 : Option Addr) (n2 c2 : Nat) (T : Int) (ds : List D) (cs : List C) (gs : List G) (t : Int) (w : World)
    (hf : Fit n0 n1 n2 ds cs gs) (hr : SR w A0 A1 A2 ds cs gs) (hsz : ∀ z ∈ ds, z.nm.size ≤ 1048576 ∧ z.ln.size ≤ 1048576) (hsc : ∀ z ∈ cs, z.nm.size ≤ 1048576) (wt : (Lit.int .i64 t).wf = true) :
    Calls Tryz.prog 9 #[sv A0 n0 c0 A1 n1 c1 A2 n2 c2 T, .int .i64 t] w (RowI w (laV ds cs gs T t)) := by
  have HF := Lib.hid hf
  have K0 := Lib.hid (Bk.new w (sc A0 n0 c0 A1 n1 c1 A2 n2 c2 T) 34)
  have B0 := Lib.hid ((Below.refl w.heap.size w).alloc (Nat.le_refl _) (.cells (sc A0 n0 c0 A1 n1 c1 A2 n2 c2 T) 34))
  have HS := Lib.hid (hr.below B0.out)
  obtain ⟨r, hrr⟩ : ∃ r, show9 ds cs gs T = r := ⟨_, rfl⟩
  have CS := Lib.hid (fun (W : World) (h : SR W A0 A1 A2 ds cs gs) => (by have := Sw9.isShowS A0 n0 c0 A1 n1 c1 A2 n2 c2 T ds cs gs W HF.out h hsz hsc; rw [hrr] at this; exact this : Calls Tryz.prog 34 #[sv A0 n0 c0 A1 n1 c1 A2 n2 c2 T] W fun e w' => e = .returned (.bool r) ∧ Below W.heap.size W w'))
  cases r
  · rw [laV_no t hrr]
    have hu : undef = Value.tuple #[] := rfl
    clear hf hr hrr
    go_enter Tryz.func9, Tryz.ntmps9
    go_wp2_with fail
    refine (CS.out _ HS.out).mono ?_
    rintro e w1 ⟨rfl, hb⟩
    have B1 := Lib.hid (B0.out.trans (hb.mono B0.out.size))
    clear hb CS HS K0 B0
    go_wp2_with fail
    go_ret
    exact row_base (row_nil w1) B1.out
  · rw [laV_yes t hrr]
    have hs := show_iff.1 hrr
    have CL := Lib.hid (fun (W : World) (h : SR W A0 A1 A2 ds cs gs) => Lg9.l9Lifts A0 n0 c0 A1 n1 c1 A2 n2 c2 T ds cs gs t W HF.out h hs.1 hs.2.1 hs.2.2.2 wt)
    have hu : undef = Value.tuple #[] := rfl
    clear hf hr hrr hs wt
    go_enter Tryz.func9, Tryz.ntmps9
    go_wp2_with fail
    refine (CS.out _ HS.out).mono ?_
    rintro e w1 ⟨rfl, hb⟩
    have B1 := Lib.hid (B0.out.trans (hb.mono B0.out.size))
    have S1 := Lib.hid (HS.out.below hb)
    have K1 := Lib.hid (K0.out.below hb)
    have b0 := K1.out.cell (i := 0) rfl
    have b1 := K1.out.cell (i := 1) rfl
    have b2 := K1.out.cell (i := 2) rfl
    have b3 := K1.out.cell (i := 3) rfl
    clear hb CS HS K0 B0 K1
    go_wp2_with fail
    refine (CL.out _ S1.out).mono ?_
    rintro e w2 h
    obtain ⟨g, c, rfl, o, hb⟩ := row_base h B1.out
    have O := Lib.hid o
    have B2 := Lib.hid hb
    clear h o hb CL S1 b0 b1 b2 b3
    go_wp2_with fail
    go_ret
    exact ⟨g, c, rfl, O.out, B2.out⟩

set_option maxRecDepth 100000 in
set_option maxHeartbeats 2000000 in
theorem liftsAtI (A0 : Option Addr) (n0 c0 : Nat) (A1 : Option Addr) (n1 c1 : Nat) (A2 : Option Addr) (n2 c2 : Nat) (T : Int) (ds : List D) (cs : List C) (gs : List G) (t : Int) (w : World)
    (hf : Fit n0 n1 n2 ds cs gs) (hr : SR w A0 A1 A2 ds cs gs) (wt : (Lit.int .i64 t).wf = true) :
    Calls Tryz.prog 11 #[sv A0 n0 c0 A1 n1 c1 A2 n2 c2 T, .int .i64 t] w (RowI w (laV ds cs gs T t)) := by
  have HF := Lib.hid hf
  have K0 := Lib.hid (Bk.new w (sc A0 n0 c0 A1 n1 c1 A2 n2 c2 T) 34)
  have B0 := Lib.hid ((Below.refl w.heap.size w).alloc (Nat.le_refl _) (.cells (sc A0 n0 c0 A1 n1 c1 A2 n2 c2 T) 34))
  have HS := Lib.hid (hr.below B0.out)
  obtain ⟨r, hrr⟩ : ∃ r, show9 ds cs gs T = r := ⟨_, rfl⟩
  have CS := Lib.hid (fun (W : World) (h : SR W A0 A1 A2 ds cs gs) => (by have := Sw9.isShowI A0 n0 c0 A1 n1 c1 A2 n2 c2 T ds cs gs W HF.out h; rw [hrr] at this; exact this : Calls Tryz.prog 39 #[sv A0 n0 c0 A1 n1 c1 A2 n2 c2 T] W fun e w' => e = .returned (.bool r) ∧ Below W.heap.size W w'))
  cases r
  · rw [laV_no t hrr]
    have hu : undef = Value.tuple #[] := rfl
    clear hf hr hrr
    go_enter Tryz.func11, Tryz.ntmps11
    go_wp2_with fail
    refine (CS.out _ HS.out).mono ?_
    rintro e w1 ⟨rfl, hb⟩
    have B1 := Lib.hid (B0.out.trans (hb.mono B0.out.size))
    clear hb CS HS K0 B0
    go_wp2_with fail
    go_ret
    exact row_base (row_nil w1) B1.out
  · rw [laV_yes t hrr]
    have hs := show_iff.1 hrr
    have CL := Lib.hid (fun (W : World) (h : SR W A0 A1 A2 ds cs gs) => Li9.liftsAt A0 n0 c0 A1 n1 c1 A2 n2 c2 T ds cs gs t W HF.out h hs.1 hs.2.2.2 wt)
    have hu : undef = Value.tuple #[] := rfl
    clear hf hr hrr hs wt
    go_enter Tryz.func11, Tryz.ntmps11
    go_wp2_with fail
    refine (CS.out _ HS.out).mono ?_
    rintro e w1 ⟨rfl, hb⟩
    have B1 := Lib.hid (B0.out.trans (hb.mono B0.out.size))
    have S1 := Lib.hid (HS.out.below hb)
    have K1 := Lib.hid (K0.out.below hb)
    have b0 := K1.out.cell (i := 0) rfl
    have b1 := K1.out.cell (i := 1) rfl
    have b2 := K1.out.cell (i := 2) rfl
    have b3 := K1.out.cell (i := 3) rfl
    clear hb CS HS K0 B0 K1
    go_wp2_with fail
    refine (CL.out _ S1.out).mono ?_
    rintro e w2 h
    obtain ⟨g, c, rfl, o, hb⟩ := row_base h B1.out
    have O := Lib.hid o
    have B2 := Lib.hid hb
    clear h o hb CL S1 b0 b1 b2 b3
    go_wp2_with fail
    go_ret
    exact ⟨g, c, rfl, O.out, B2.out⟩
end Go.Proofs.YtkndejjfndjcoaaGreat.La9
