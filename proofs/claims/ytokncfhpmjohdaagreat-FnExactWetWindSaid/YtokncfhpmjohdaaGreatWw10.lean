/- A wind in which a show is wet, of the program. -/
import Derived.Test.YtokncfhpmjohdaaGreatM24
import Derived.Test.YtokncfhpmjohdaaGreatSw9
import Derived.Test.YtokncfhpmjohdaaGreatM19
import Derived.Test.YtokncfhpmjohdaaGreatM16
import Derived.Test.YtokncfhpmjohdaaGreatM23
import Derived.Test.YtokncfhpmjohdaaGreatM3
import Derived.Deep.RegionHeld3
set_option linter.unusedVariables false
set_option linter.unusedSimpArgs false
namespace Go.Proofs.YtokncfhpmjohdaaGreat.Ww10
open Go.RowKit Go.ChangeShapes Go.WideShapes Go.WideElems Go.Deep Go.Proofs.YtokncfhpmjohdaaGreat.Mem Go.Proofs.YtokncfhpmjohdaaGreat.Rw Go.Proofs.YtokncfhpmjohdaaGreat.P2 Go.Proofs.YtokncfhpmjohdaaGreat.Bk Go.Proofs.YtokncfhpmjohdaaGreat.Jt Go.Proofs.YtokncfhpmjohdaaGreat.Cm Go.Proofs.YtokncfhpmjohdaaGreat.Cx Go.Proofs.YtokncfhpmjohdaaGreat.Pl Go.Proofs.YtokncfhpmjohdaaGreat.Hd Go.Proofs.YtokncfhpmjohdaaGreat.Str
open Go.Proofs.YtokncfhpmjohdaaGreat.Wz Go.Proofs.YtokncfhpmjohdaaGreat.Fw10 Go.Proofs.YtokncfhpmjohdaaGreat.Fa10 Go.Proofs.YtokncfhpmjohdaaGreat.Wy
open Go.Proofs.YtokncfhpmjohdaaGreat.Wr (rs)
open Go.Proofs.YtokncfhpmjohdaaGreat.Pls (pls)
open Go.Proofs.YtokncfhpmjohdaaGreat.Bo (boxA Q4 bq)
open Go.Proofs.YtokncfhpmjohdaaGreat.Tb (box4 set4)
open Go.Proofs.YtokncfhpmjohdaaGreat.Tw9 (step_store_row row_grown row_bk)
open Go.Proofs.YtokncfhpmjohdaaGreat.Bxi (bx)
open Go.Proofs.YtokncfhpmjohdaaGreat.Dp (landV landI flightI fl_yes inF_iff told2_yes told2_no)
open Go.Proofs.YtokncfhpmjohdaaGreat.Sp Go.Proofs.YtokncfhpmjohdaaGreat.Sq
open Go.Proofs.YtokncfhpmjohdaaGreat.Sv hiding D C G
open Go.Proofs.YtokncfhpmjohdaaGreat.Tw9 (T9 WOk tls tls_get Thr)
open Go.Proofs.YtokncfhpmjohdaaGreat.Bxi (isBoxI)
open Go.Proofs.YtokncfhpmjohdaaGreat.Wg (lat)
open Go.Proofs.YtokncfhpmjohdaaGreat.Gs (gls)
set_option linter.unusedVariables false
set_option linter.unusedSimpArgs false

theorem cT {w : World} {base g n c k : Nat} {us : List T9} {u : T9} (o : w.ownsRow base 84 9 (.slice (some ⟨g, 0, none⟩) n c) n (tls us)) (h : us[k]? = some u) (hk : k < n) :
    w.cell? ⟨g, k * 9, none⟩ = some (.string u.z.d.nm) ∧ w.cell? ⟨g, k * 9 + 1, none⟩ = some (.int .i64 u.z.b) ∧ w.cell? ⟨g, k * 9 + 2, none⟩ = some (.int .i64 (u.z.b + (u.z.l + 1))) ∧ w.cell? ⟨g, k * 9 + 3, none⟩ = some (.int .i64 u.z.d.x) ∧ w.cell? ⟨g, k * 9 + 4, none⟩ = some (.int .i64 u.z.d.y) ∧ w.cell? ⟨g, k * 9 + 5, none⟩ = some (.int .i64 u.z.d.hd) ∧ w.cell? ⟨g, k * 9 + 6, none⟩ = some (.int .i64 u.z.d.tl) ∧ w.cell? ⟨g, k * 9 + 7, none⟩ = some (.int .i64 u.z.l) ∧ w.cell? ⟨g, k * 9 + 8, none⟩ = some (.complex .f32 u.re u.im) :=
  have g := tls_get h
  ⟨(o.cellAt (k * 9) (by omega)).trans g.1, (o.cellAt (k * 9 + 1) (by omega)).trans g.2.1, (o.cellAt (k * 9 + 2) (by omega)).trans g.2.2.1, (o.cellAt (k * 9 + 3) (by omega)).trans g.2.2.2.1, (o.cellAt (k * 9 + 4) (by omega)).trans g.2.2.2.2.1, (o.cellAt (k * 9 + 5) (by omega)).trans g.2.2.2.2.2.1, (o.cellAt (k * 9 + 6) (by omega)).trans g.2.2.2.2.2.2.1, (o.cellAt (k * 9 + 7) (by omega)).trans g.2.2.2.2.2.2.2.1, (o.cellAt (k * 9 + 8) (by omega)).trans g.2.2.2.2.2.2.2.2⟩

noncomputable def snd9 (ds : List D) (cs : List C) (gs : List G) (T : Int) (ps : List (Int × Int)) (x y z u : Int) : Bool := show9 ds cs gs T && rs ps && bx x y z u
set_option maxRecDepth 100000 in
set_option maxHeartbeats 4000000 in
theorem soundI (A0 : Option Addr) (n0 c0 : Nat) (A1 : Option Addr) (n1 c1 : Nat) (A2 : Option Addr) (n2 c2 : Nat) (T : Int) (ds : List D) (cs : List C) (gs : List G) (A9 : Option Addr) (n9 c9 : Nat) (ps : List (Int × Int)) (x y z u : Int) (w : World) (hf : Fit n0 n1 n2 ds cs gs) (hr : SR w A0 A1 A2 ds cs gs) (hn9 : ps.length = n9) (hb9 : n9 ≤ 1048576) (hr9 : Rd w w.heap.size A9 (pls ps)) :
    Calls Tryz.prog 42 #[sv A0 n0 c0 A1 n1 c1 A2 n2 c2 T, .slice A9 n9 c9, .agg #[.int .i64 x, .int .i64 y, .int .i64 z, .int .i64 u]] w fun e w' => e = .returned (.bool (snd9 ds cs gs T ps x y z u)) ∧ Below w.heap.size w w' := by
  have b0a := (Below.refl w.heap.size w).alloc (Nat.le_refl _) (.cells (sc A0 n0 c0 A1 n1 c1 A2 n2 c2 T) 40)
  have hz1 : (w.alloc (.cells (sc A0 n0 c0 A1 n1 c1 A2 n2 c2 T) 40)).heap.size = w.heap.size + 1 := by simp [go_sem]
  have B0 := Lib.hid (b0a.alloc b0a.size (.cells #[.int .i64 x, .int .i64 y, .int .i64 z, .int .i64 u] 46))
  have KS := Lib.hid ((Bk.new w (sc A0 n0 c0 A1 n1 c1 A2 n2 c2 T) 40).alloc (o := .cells #[.int .i64 x, .int .i64 y, .int .i64 z, .int .i64 u] 46))
  have KB := Bk.new (w.alloc (.cells (sc A0 n0 c0 A1 n1 c1 A2 n2 c2 T) 40)) #[.int .i64 x, .int .i64 y, .int .i64 z, .int .i64 u] 46
  rw [hz1] at KB
  have KB := Lib.hid KB
  obtain ⟨r1, hr1⟩ : ∃ r, show9 ds cs gs T = r := ⟨_, rfl⟩
  obtain ⟨r2, hp⟩ : ∃ r, rs ps = r := ⟨_, rfl⟩
  obtain ⟨r3, hr3⟩ : ∃ r, bx x y z u = r := ⟨_, rfl⟩
  have CS := Lib.hid (fun (W : World) (h : SR W A0 A1 A2 ds cs gs) => (by have := Sw9.isShowI A0 n0 c0 A1 n1 c1 A2 n2 c2 T ds cs gs W hf h; rw [hr1] at this; exact this : Calls Tryz.prog 85 #[sv A0 n0 c0 A1 n1 c1 A2 n2 c2 T] W fun e w' => e = .returned (.bool r1) ∧ Below W.heap.size W w'))
  have CR := Lib.hid (fun (W : World) (h9 : Below w.heap.size w W) => Wx.roseI (A := A9) (c := c9) (H := w.heap.size) hn9 hb9 hp W h9.size (hr9.below h9))
  have CB := Lib.hid (fun (W : World) => (by have := isBoxI x y z u W; rw [hr3] at this; exact this : Calls Tryz.prog 86 #[.agg #[.int .i64 x, .int .i64 y, .int .i64 z, .int .i64 u]] W fun e w' => e = .returned (.bool r3) ∧ Below W.heap.size W w'))
  have HS := Lib.hid (hr.below B0.out)
  have HV := Lib.hid (show snd9 ds cs gs T ps x y z u = (r1 && r2 && r3) by unfold snd9; rw [hr1, hp, hr3])
  rw [HV.out]
  have hu : undef = Value.tuple #[] := rfl
  have s0 := KS.out.cell (i := 0) rfl
  have s1 := KS.out.cell (i := 1) rfl
  have s2 := KS.out.cell (i := 2) rfl
  have s3 := KS.out.cell (i := 3) rfl
  have k0 := KB.out.cell (i := 0) rfl
  have k1 := KB.out.cell (i := 1) rfl
  have k2 := KB.out.cell (i := 2) rfl
  have k3 := KB.out.cell (i := 3) rfl
  clear hf hr hn9 hb9 hr9 hz1 b0a hr1 hp hr3 HV KS
  cases r1
  · clear CR CB KB k0 k1 k2 k3
    go_enter Tryz.func42, Tryz.ntmps42
    go_wp2_with fail
    refine (CS.out _ HS.out).mono ?_
    rintro e v ⟨rfl, hb⟩
    have B9 := B0.out.trans (hb.mono B0.out.size)
    clear hb CS HS B0 s0 s1 s2 s3
    go_wp2_with fail
    go_ret
    exact ⟨rfl, B9⟩
  cases r2
  · clear CB KB k0 k1 k2 k3
    go_enter Tryz.func42, Tryz.ntmps42
    go_wp2_with fail
    refine (CS.out _ HS.out).mono ?_
    rintro e v ⟨rfl, hb⟩
    have B1 := Lib.hid (B0.out.trans (hb.mono B0.out.size))
    clear hb CS HS B0 s0 s1 s2 s3
    go_wp2_with fail
    refine (CR.out _ B1.out).mono ?_
    rintro e v2 ⟨rfl, hb⟩
    have B9 := B1.out.trans (hb.mono B1.out.size)
    clear hb CR B1
    go_wp2_with fail
    go_ret
    exact ⟨rfl, B9⟩
  go_enter Tryz.func42, Tryz.ntmps42
  go_wp2_with fail
  refine (CS.out _ HS.out).mono ?_
  rintro e v ⟨rfl, hb⟩
  have B1 := Lib.hid (B0.out.trans (hb.mono B0.out.size))
  have K1 := Lib.hid (KB.out.below hb)
  clear hb CS HS B0 KB s0 s1 s2 s3 k0 k1 k2 k3
  go_wp2_with fail
  refine (CR.out _ B1.out).mono ?_
  rintro e v2 ⟨rfl, hb⟩
  have B2 := Lib.hid (B1.out.trans (hb.mono B1.out.size))
  have K2 := Lib.hid (K1.out.below hb)
  clear hb CR B1 K1
  have k0 := K2.out.cell (i := 0) rfl
  have k1 := K2.out.cell (i := 1) rfl
  have k2 := K2.out.cell (i := 2) rfl
  have k3 := K2.out.cell (i := 3) rfl
  go_wp2_with fail
  refine (CB.out _).mono ?_
  rintro e v3 ⟨rfl, hb⟩
  have B9 := B2.out.trans (hb.mono B2.out.size)
  clear hb CB B2 K2 k0 k1 k2 k3
  go_wp2_with fail
  go_ret
  exact ⟨by simp, B9⟩

/-- The first heading on whose side a drop can land outside. -/
noncomputable def wtO (ds : List D) (cs : List C) (gs : List G) (T : Int) (ps : List (Int × Int)) (x y z u : Int) : Option Nat := (all9 ds cs gs T).findSome? (fun b => wetH b.d.x b.d.y b.d.hd b.d.tl b.l ps x y z u)
/-- The wind that is answered. -/
def wwL (ps : List (Int × Int)) : Option Nat → List G
  | some k => lat [(0, wD ps (k : Int))] 0
  | none => []
noncomputable def wwO (ds : List D) (cs : List C) (gs : List G) (T : Int) (ps : List (Int × Int)) (x y z u : Int) : Option Nat := if snd9 ds cs gs T ps x y z u = true then wtO ds cs gs T ps x y z u else none
/-- What comes back: a wind of the call's own, and whether there is one. -/
def RowW (w : World) (zs : List G) (b : Bool) (e : Ending) (w' : World) : Prop :=
  ∃ g c, e = .returned (.tuple #[.slice (some ⟨g, 0, none⟩) zs.length c, .bool b]) ∧ w'.ownsRow w.heap.size 89 3 (.slice (some ⟨g, 0, none⟩) zs.length c) zs.length (gls zs) ∧ Below w.heap.size w w'
theorem find_here {l : List B} {f : B → Option Nat} {k : Nat} {b : B} {h : Nat} (hb : l[k]? = some b) (hh : f b = some h) (hn : ∀ c ∈ l.take k, f c = none) : l.findSome? f = some h := by
  obtain ⟨hk, rfl⟩ := List.getElem?_eq_some_iff.1 hb
  have e : l = l.take k ++ l[k] :: l.drop (k + 1) := by rw [← List.drop_eq_getElem_cons hk, List.take_append_drop]
  generalize hx : l[k] = b at hh e
  rw [e, List.findSome?_append, List.findSome?_eq_none_iff.2 hn]
  simp [hh]
set_option maxRecDepth 100000 in
set_option maxHeartbeats 4000000 in
theorem wetWindI (A0 : Option Addr) (n0 c0 : Nat) (A1 : Option Addr) (n1 c1 : Nat) (A2 : Option Addr) (n2 c2 : Nat) (T : Int) (ds : List D) (cs : List C) (gs : List G) (A9 : Option Addr) (n9 c9 : Nat) (ps : List (Int × Int)) (x y z u : Int) (w : World) (hf : Fit n0 n1 n2 ds cs gs) (hr : SR w A0 A1 A2 ds cs gs) (hn9 : ps.length = n9) (hb9 : n9 ≤ 1048576) (hr9 : Rd w w.heap.size A9 (pls ps)) :
    Calls Tryz.prog 13 #[sv A0 n0 c0 A1 n1 c1 A2 n2 c2 T, .slice A9 n9 c9, .agg #[.int .i64 x, .int .i64 y, .int .i64 z, .int .i64 u]] w (RowW w (wwL ps (wwO ds cs gs T ps x y z u)) (wwO ds cs gs T ps x y z u).isSome) := by
  have b0a := (Below.refl w.heap.size w).alloc (Nat.le_refl _) (.cells (sc A0 n0 c0 A1 n1 c1 A2 n2 c2 T) 40)
  have hz1 : (w.alloc (.cells (sc A0 n0 c0 A1 n1 c1 A2 n2 c2 T) 40)).heap.size = w.heap.size + 1 := by simp [go_sem]
  have B0 := Lib.hid (b0a.alloc b0a.size (.cells #[.int .i64 x, .int .i64 y, .int .i64 z, .int .i64 u] 46))
  have KS := Lib.hid ((Bk.new w (sc A0 n0 c0 A1 n1 c1 A2 n2 c2 T) 40).alloc (o := .cells #[.int .i64 x, .int .i64 y, .int .i64 z, .int .i64 u] 46))
  have KB := Bk.new (w.alloc (.cells (sc A0 n0 c0 A1 n1 c1 A2 n2 c2 T) 40)) #[.int .i64 x, .int .i64 y, .int .i64 z, .int .i64 u] 46
  rw [hz1] at KB
  have KB := Lib.hid KB
  obtain ⟨r, hs⟩ : ∃ r, snd9 ds cs gs T ps x y z u = r := ⟨_, rfl⟩
  have CS := Lib.hid (fun (W : World) (h : SR W A0 A1 A2 ds cs gs) (h9 : Below w.heap.size w W) => (by have := soundI A0 n0 c0 A1 n1 c1 A2 n2 c2 T ds cs gs A9 n9 c9 ps x y z u W hf h hn9 hb9 ((hr9.below h9).more h9.size); rw [hs] at this; exact this : Calls Tryz.prog 42 #[sv A0 n0 c0 A1 n1 c1 A2 n2 c2 T, .slice A9 n9 c9, .agg #[.int .i64 x, .int .i64 y, .int .i64 z, .int .i64 u]] W fun e w' => e = .returned (.bool r) ∧ Below W.heap.size W w'))
  have HS := Lib.hid (hr.below B0.out)
  have hu : undef = Value.tuple #[] := rfl
  have s0 := KS.out.cell (i := 0) rfl
  have s1 := KS.out.cell (i := 1) rfl
  have s2 := KS.out.cell (i := 2) rfl
  have s3 := KS.out.cell (i := 3) rfl
  have k0 := KB.out.cell (i := 0) rfl
  have k1 := KB.out.cell (i := 1) rfl
  have k2 := KB.out.cell (i := 2) rfl
  have k3 := KB.out.cell (i := 3) rfl
  cases r
  · have HV := Lib.hid (show wwO ds cs gs T ps x y z u = none by unfold wwO; rw [hs]; rfl)
    rw [HV.out]
    clear hf hr hn9 hb9 hr9 hz1 b0a hs KS KB HV
    go_enter Tryz.func13, Tryz.ntmps13
    go_wp2_with fail
    refine (CS.out _ HS.out B0.out).mono ?_
    rintro e v ⟨rfl, hb⟩
    have B1 := Lib.hid (B0.out.trans (hb.mono B0.out.size))
    clear hb CS HS B0 s0 s1 s2 s3 k0 k1 k2 k3
    go_wp2_with fail
    go_returns
    exact ⟨v.heap.size, 0, rfl, World.ownsRow_lit (base := w.heap.size) (e := 89) (size := 3) v #[] 0 B1.out.size (Nat.zero_le _) rfl, B1.out.alloc B1.out.size _⟩
  have hs3 : show9 ds cs gs T = true ∧ rs ps = true ∧ bx x y z u = true := by
    unfold snd9 at hs; simpa [Bool.and_eq_true, and_assoc] using hs
  obtain ⟨hs1, hp, hbx⟩ := hs3
  obtain ⟨zs, hzs⟩ : ∃ zs, all9 ds cs gs T = zs := ⟨_, rfl⟩
  obtain ⟨m, hm⟩ : ∃ m, zs.length = m := ⟨_, rfl⟩
  have hmb : m ≤ 512 := by have := all9_len ds cs gs T; rw [hzs, hm] at this; exact this
  obtain ⟨o9, ho9⟩ : ∃ o, zs.findSome? (fun b => wetH b.d.x b.d.y b.d.hd b.d.tl b.l ps x y z u) = o := ⟨_, rfl⟩
  have HO := Lib.hid ho9
  have HV := show wwO ds cs gs T ps x y z u = o9 by unfold wwO wtO; rw [hs, hzs]; exact ho9
  rw [HV]
  have HJ := Lib.hid (show ∀ b ∈ zs, jt b.d.x b.d.y b.d.hd b.d.tl b.l = true from fun b hb => (all9_ok b (by rw [hzs]; exact hb)).1.1)
  have CT := Lib.hid (fun (W : World) (h : SR W A0 A1 A2 ds cs gs) => (by have := Ti9.thrownIn A0 n0 c0 A1 n1 c1 A2 n2 c2 T ds cs gs W hf h; unfold Tw9.RowT at this; rw [hzs, hm] at this; exact this :
    Calls Tryz.prog 43 #[sv A0 n0 c0 A1 n1 c1 A2 n2 c2 T] W (fun e w' => ∃ g c, e = .returned (.slice (some ⟨g, 0, none⟩) m c) ∧ Thr w' W.heap.size (.slice (some ⟨g, 0, none⟩) m c) m zs ∧ Below W.heap.size W w')))
  have HN9 := Lib.hid (And.intro hn9 hb9)
  have HR9 := Lib.hid hr9
  have HM := Lib.hid hm
  have HP := Lib.hid hp
  have HB := Lib.hid hbx
  clear hf hr hn9 hb9 hr9 hz1 b0a hs hs1 hp hbx hzs hm ho9 HV
  go_enter Tryz.func13, Tryz.ntmps13
  go_wp2_with fail
  refine (CS.out _ HS.out B0.out).mono ?_
  rintro e v ⟨rfl, hb⟩
  have B1 := Lib.hid (B0.out.trans (hb.mono B0.out.size))
  have S1 := Lib.hid (HS.out.below hb)
  have K1 := Lib.hid (KB.out.below hb)
  have Q1 := Lib.hid (KS.out.below hb)
  clear hb CS HS B0 KB KS s0 s1 s2 s3 k0 k1 k2 k3
  have s0 := Q1.out.cell (i := 0) rfl
  have s1 := Q1.out.cell (i := 1) rfl
  have s2 := Q1.out.cell (i := 2) rfl
  have s3 := Q1.out.cell (i := 3) rfl
  go_wp2_with fail
  refine (CT.out _ S1.out).mono ?_
  rintro e w2 ⟨gL, cL, rfl, hT, hb⟩
  obtain ⟨ts, ht1, ht2, ht3, oT⟩ := Ti9.thr_more hT B1.out.size
  have HTL := Lib.hid ht3
  have HTZ := Lib.hid ht1
  have B2 := Lib.hid (B1.out.trans (hb.mono B1.out.size))
  have K2 := Lib.hid (K1.out.below hb)
  have O2 := Lib.hid oT
  clear hb hT ht1 ht2 ht3 oT CT S1 K1 Q1 B1 s0 s1 s2 s3
  go_wp2_with fail
  go_loopw [10, 11, 21] (fun a9 b9 i wr => ∃ k : Nat, k ≤ m ∧ i = .int .i64 k ∧ Hid (∀ b ∈ zs.take k, wetH b.d.x b.d.y b.d.hd b.d.tl b.l ps x y z u = none) ∧ Hid (wr.ownsRow w.heap.size 84 9 (.slice (some ⟨gL, 0, none⟩) m cL) m (tls ts)) ∧ Hid (Bk wr (w.heap.size + 1) #[.int .i64 x, .int .i64 y, .int .i64 z, .int .i64 u] 46) ∧ Hid (Below w.heap.size w wr)) (fun _ _ i _ => m - (intOf i).toNat)
  case atStart => exact ⟨0, Nat.zero_le _, rfl, Lib.hid (by intro b hb; simp at hb), O2, K2, B2⟩
  case round =>
    obtain ⟨k, hk, rfl, NK, OK, KK, BK⟩ := hrel
    clear O2 B2 K2
    have hbs := BK.out.size
    by_cases hlt : k < m
    · obtain ⟨t9, hu9⟩ : ∃ u, ts[k]? = some u := ⟨_, List.getElem?_eq_getElem (by rw [HTL.out]; exact hlt)⟩
      have hz9 : zs[k]? = some t9.z := by rw [← HTZ.out, List.getElem?_map, hu9]; rfl
      obtain ⟨x0, x1, x2, x3, x4, x5, x6, x7, x8⟩ := cT OK.out hu9 hlt
      obtain ⟨b, hzz⟩ : ∃ b, t9.z = b := ⟨_, rfl⟩
      obtain ⟨re, hre⟩ : ∃ b, t9.re = b := ⟨_, rfl⟩
      obtain ⟨im, him⟩ : ∃ b, t9.im = b := ⟨_, rfl⟩
      rw [hzz] at hz9 x0 x1 x2 x3 x4 x5 x6 x7
      rw [hre, him] at x8
      clear hzz hre him hu9
      have HZ9 := Lib.hid hz9
      have hj := HJ.out b (List.mem_of_getElem? hz9)
      obtain ⟨o, ho⟩ : ∃ o, wetH b.d.x b.d.y b.d.hd b.d.tl b.l ps x y z u = o := ⟨_, rfl⟩
      have HO9 := Lib.hid ho
      have CW := Lib.hid (fun (W : World) (h9 : Below w.heap.size w W) => (by have := wetHeading A9 n9 c9 ps x y z u hj HP.out HB.out W HN9.out.1 HN9.out.2 ((HR9.out.below h9).more h9.size); rw [ho] at this; exact this :
        Calls Tryz.prog 44 #[jv b.d.x b.d.y b.d.hd b.d.tl b.l, .slice A9 n9 c9, .agg #[.int .i64 x, .int .i64 y, .int .i64 z, .int .i64 u]] W fun e w' => e = .returned (wetHV o) ∧ Below W.heap.size W w'))
      have O1 := Lib.hid (OK.out.alloc (.cells #[.string b.d.nm, .int .i64 b.b, .int .i64 (b.b + (b.l + 1)), .int .i64 b.d.x, .int .i64 b.d.y, .int .i64 b.d.hd, .int .i64 b.d.tl, .int .i64 b.l, .complex .f32 re im] 84))
      have K1 := Lib.hid (KK.out.alloc (o := .cells #[.string b.d.nm, .int .i64 b.b, .int .i64 (b.b + (b.l + 1)), .int .i64 b.d.x, .int .i64 b.d.y, .int .i64 b.d.hd, .int .i64 b.d.tl, .int .i64 b.l, .complex .f32 re im] 84))
      have B1 := Lib.hid (BK.out.alloc hbs (.cells #[.string b.d.nm, .int .i64 b.b, .int .i64 (b.b + (b.l + 1)), .int .i64 b.d.x, .int .i64 b.d.y, .int .i64 b.d.hd, .int .i64 b.d.tl, .int .i64 b.l, .complex .f32 re im] 84))
      have CW9 := Lib.hid (CW.out _ B1.out)
      have k0 := K1.out.cell (i := 0) rfl
      have k1 := K1.out.cell (i := 1) rfl
      have k2 := K1.out.cell (i := 2) rfl
      have k3 := K1.out.cell (i := 3) rfl
      clear hz9 ho hj OK KK BK hbs CW
      cases o
      · have CW9 := Lib.hid (show Calls Tryz.prog 44 #[jv b.d.x b.d.y b.d.hd b.d.tl b.l, .slice A9 n9 c9, .agg #[.int .i64 x, .int .i64 y, .int .i64 z, .int .i64 u]] _ (fun e w' => e = .returned (.tuple #[.int .i64 0, .bool false]) ∧ Below _ _ w') from CW9.out)
        go_wp2_with fail
        refine CW9.out.mono ?_
        rintro e w3 ⟨rfl, hb⟩
        have O3 := Lib.hid (owns_below O1.out hb)
        have K3 := Lib.hid (K1.out.below hb)
        have B3 := Lib.hid (B1.out.trans (hb.mono B1.out.size))
        have NN := Lib.hid (show ∀ b ∈ zs.take (k + 1), wetH b.d.x b.d.y b.d.hd b.d.tl b.l ps x y z u = none from by
          obtain ⟨hk9, e9⟩ := List.getElem?_eq_some_iff.1 HZ9.out
          rw [List.take_succ_eq_append_getElem hk9, e9]
          intro c hc
          rcases List.mem_append.1 hc with hc | hc
          · exact NK.out c hc
          · rw [List.mem_singleton.1 hc]; exact HO9.out)
        clear hb O1 K1 B1 CW9 x0 x1 x2 x3 x4 x5 x6 x7 x8 k0 k1 k2 k3
        go_wp2_with fail
        go_roundw
        case rel => exact ⟨k + 1, by omega, by go_num, NN, O3, K3, B3⟩
        case measure => simp [intOf]; omega
      · rename_i hh
        have HW := Lib.hid (HO.out.symm.trans (find_here HZ9.out HO9.out NK.out))
        obtain ⟨⟨dx, dy⟩, hd⟩ : ∃ p, wD ps (hh : Int) = p := ⟨_, rfl⟩
        have HWL := Lib.hid (show wwL ps (some hh) = lat [(0, dx, dy)] 0 by show lat [(0, wD ps (hh : Int))] 0 = _; rw [hd])
        have CD := Lib.hid (fun (W : World) (h9 : Below w.heap.size w W) => (by have := worstI A9 n9 c9 ps (hh : Int) W HN9.out.1 HN9.out.2 ((HR9.out.below h9).more h9.size); rw [hd] at this; exact this :
          Calls Tryz.prog 46 #[.slice A9 n9 c9, .int .i64 (hh : Int)] W fun e w' => e = .returned (.agg #[.int .i64 dx, .int .i64 dy]) ∧ Below W.heap.size W w'))
        have CW9 := Lib.hid (show Calls Tryz.prog 44 #[jv b.d.x b.d.y b.d.hd b.d.tl b.l, .slice A9 n9 c9, .agg #[.int .i64 x, .int .i64 y, .int .i64 z, .int .i64 u]] _ (fun e w' => e = .returned (.tuple #[.int .i64 (hh : Int), .bool true]) ∧ Below _ _ w') from CW9.out)
        rw [HW.out, HWL.out]
        clear hd HW HWL
        go_wp2_with fail
        refine CW9.out.mono ?_
        rintro e w3 ⟨rfl, hb⟩
        have B3 := Lib.hid (B1.out.trans (hb.mono B1.out.size))
        clear hb O1 K1 B1 CW9 x0 x1 x2 x3 x4 x5 x6 x7 x8 k0 k1 k2 k3 HZ9 HO9 NK
        go_wp2_with fail
        refine (CD.out _ B3.out).mono ?_
        rintro e w4 ⟨rfl, hb⟩
        have b4 := B3.out.trans (hb.mono B3.out.size)
        have B4 := Lib.hid (b4.alloc b4.size (.cells #[.int .i64 0, .int .i64 dx, .int .i64 dy] 89))
        have RL := World.ownsRow_lit (base := w4.heap.size) (e := 89) (size := 3) w4 #[.int .i64 0, .int .i64 dx, .int .i64 dy] 1 (Nat.le_refl _) (by decide) rfl
        have CN := Lib.hid (Wg.normalI (some ⟨w4.heap.size, 0, none⟩) 1 1 [(0, dx, dy)] _ (w4.alloc (.cells #[.int .i64 0, .int .i64 dx, .int .i64 dy] 89)) rfl (by decide) (Nat.le_refl _) (Rd.own RL))
        clear hb b4 RL B3 CD
        go_wp2_with fail
        refine CN.out.mono ?_
        rintro e w5 ⟨g, c, rfl, o, hb⟩
        have B5 := Lib.hid (B4.out.trans (hb.mono B4.out.size))
        have R5 := Lib.hid (owns_base o (Nat.le_trans B4.out.size (o.lt g rfl).1))
        clear hb o B4 CN
        go_wp2_with fail
        go_returns
        exact ⟨g, c, rfl, R5.out, B5.out⟩
    · obtain rfl : m = k := by omega
      have HW := Lib.hid (HO.out.symm.trans (List.findSome?_eq_none_iff.2 (fun b hb => NK.out b (by rw [List.take_of_length_le (by rw [HM.out]; exact Nat.le_refl _)]; exact hb))))
      clear OK KK NK
      go_wp2_with fail
      go_returns
      rw [HW.out]
      exact ⟨wr.heap.size, 0, rfl, World.ownsRow_lit (base := w.heap.size) (e := 89) (size := 3) wr #[] 0 hbs (Nat.zero_le _) rfl, BK.out.alloc hbs _⟩
end Go.Proofs.YtokncfhpmjohdaaGreat.Ww10
