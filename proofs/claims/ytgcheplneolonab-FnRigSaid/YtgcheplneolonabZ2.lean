/- A block that holds a device. -/
import Derived.Test.YtgcheplneolonabDl
import Derived.Test.YtgcheplneolonabDs
import Derived.Test.YtgcheplneolonabRz
import Derived.Test.YtgcheplneolonabRk
namespace Go.Proofs.Ytgcheplneolonab.Bxd
open Go.RowKit Go.ChangeShapes Go.WideShapes Go.WideElems Go.Deep Go.Proofs.Ytgcheplneolonab.Mem Go.Proofs.Ytgcheplneolonab.Rw Go.Proofs.Ytgcheplneolonab.Pw Go.Proofs.Ytgcheplneolonab.P2 Go.Proofs.Ytgcheplneolonab.Dd Go.Proofs.Ytgcheplneolonab.Dv Go.Proofs.Ytgcheplneolonab.Dl Go.Proofs.Ytgcheplneolonab.Ds
set_option linter.unusedVariables false
set_option linter.unusedSimpArgs false

/-- Block b holds this device. -/
def Bx (w : World) (b : Nat) (d : D) : Prop := w.heap[b]? = some (.cells (ca d.nm d.kd d.ln d.x d.y d.hd d.tl d.ms) 28 (0, 0))
theorem Bx.new (w : World) (n : ByteArray) (q : Int) (l : ByteArray) (x y h t m : Int) : Bx (w.alloc (.cells (ca n q l x y h t m) 28)) w.heap.size ⟨n, q, l, x, y, h, t, m⟩ := heap_alloc_new w _
theorem Bx.lt {w : World} {b : Nat} {d : D} (h : Bx w b d) : b < w.heap.size := (Array.getElem?_eq_some_iff.1 h).1
theorem Bx.alloc {w : World} {b : Nat} {d : D} (h : Bx w b d) (o : Obj) : Bx (w.alloc o) b d := (Below.heap_alloc _ _ _ h.lt).trans h
theorem Bx.below {w w' : World} {b B : Nat} {d : D} (h : Bx w b d) (k : Below B w w') (hb : b < B) : Bx w' b d := (k.block b hb).trans h
theorem Bx.grown {w w' : World} {b : Nat} {d : D} {r : Option Nat} (h : Bx w b d) (k : w.grownBy w' r) (hr : some b ≠ r) : Bx w' b d := (k.block b h.lt hr).trans h
theorem Bx.other {w : World} {b b' : Nat} {d : D} (h : Bx w b d) (j : Nat) (v : Value) (hne : b ≠ b') : Bx (w.setCell ⟨b', j, none⟩ v) b d := (Below.heap_setCell _ _ _ _ hne).trans h
theorem Bx.c {w : World} {b : Nat} {n : ByteArray} {q : Int} {l : ByteArray} {x y h t m : Int} (hh : Bx w b ⟨n, q, l, x, y, h, t, m⟩) :
    w.cell? ⟨b, 0, none⟩ = some (.string n) ∧ w.cell? ⟨b, 1, none⟩ = some (.int .i64 q) ∧ w.cell? ⟨b, 2, none⟩ = some (.string l) ∧ w.cell? ⟨b, 3, none⟩ = some (.int .i64 x) ∧ w.cell? ⟨b, 4, none⟩ = some (.int .i64 y) ∧ w.cell? ⟨b, 5, none⟩ = some (.int .i64 h) ∧ w.cell? ⟨b, 6, none⟩ = some (.int .i64 t) ∧ w.cell? ⟨b, 7, none⟩ = some (.int .i64 m) := by
  have e : w.heap[b]? = some (.cells (ca n q l x y h t m) 28 (0, 0)) := hh
  refine ⟨?_, ?_, ?_, ?_, ?_, ?_, ?_, ?_⟩ <;> simp [World.cell?, e]
theorem Bx.f {w : World} {b : Nat} {d : D} (hh : Bx w b d) (j : Nat) : w.frozen? ⟨b, j, none⟩ = false := by
  have e : w.heap[b]? = some (.cells (ca d.nm d.kd d.ln d.x d.y d.hd d.tl d.ms) 28 (0, 0)) := hh
  simp [World.frozen?, e]

end Go.Proofs.Ytgcheplneolonab.Bxd
namespace Go.Proofs.Ytgcheplneolonab.Adn
open Go.RowKit Go.ChangeShapes Go.WideShapes Go.WideElems Go.Deep Go.Proofs.Ytgcheplneolonab.Mem Go.Proofs.Ytgcheplneolonab.Rw Go.Proofs.Ytgcheplneolonab.Pw Go.Proofs.Ytgcheplneolonab.P2 Go.Proofs.Ytgcheplneolonab.Dd Go.Proofs.Ytgcheplneolonab.Dv Go.Proofs.Ytgcheplneolonab.Dl Go.Proofs.Ytgcheplneolonab.Ds Go.Proofs.Ytgcheplneolonab.Fd Go.Proofs.Ytgcheplneolonab.Ch Go.Proofs.Ytgcheplneolonab.Hn Go.Proofs.Ytgcheplneolonab.Po
set_option linter.unusedVariables false
set_option linter.unusedSimpArgs false
open Go.Proofs.Ytgcheplneolonab.Ho Go.Proofs.Ytgcheplneolonab.Ig Go.Proofs.Ytgcheplneolonab.Rz

/-- Whether a device may be put in; the list with it. -/
noncomputable def adG (zs : List D) (d : D) : Bool := rig zs && (dB d && (decide (fd zs d.nm < 0) && (decide (zs.length ≠ 8) && hgV zs d.kd d.ln)))
noncomputable def adL (zs : List D) (d : D) : List D := if adG zs d = true then insD zs d else zs
theorem adL_no {zs : List D} {d : D} (h : adG zs d = false) : adL zs d = zs := by unfold adL; rw [h]; rfl
theorem adL_yes {zs : List D} {d : D} (h : adG zs d = true) : adL zs d = insD zs d := by unfold adL; rw [if_pos h]
theorem adL_len (zs : List D) (d : D) : (adL zs d).length ≤ zs.length + 1 := by
  cases h : adG zs d
  · rw [adL_no h]; omega
  · rw [adL_yes h, ins_len]; omega
theorem ad_rig {zs : List D} {d : D} (h : Rig zs) : Rig (adL zs d) := by
  cases hg : adG zs d
  · rw [adL_no hg]; exact h
  · rw [adL_yes hg]
    unfold adG at hg
    rw [Bool.and_eq_true, Bool.and_eq_true, Bool.and_eq_true, Bool.and_eq_true] at hg
    obtain ⟨_, h2, h3, h4, h5⟩ := hg
    have h8 := h.1
    have := of_decide_eq_true h4
    exact rig_ins h h2 (fd_none.1 (of_decide_eq_true h3)) (by omega) h5
theorem ad_mem {zs : List D} {d e : D} (h : e ∈ adL zs d) : e = d ∨ e ∈ zs := by
  cases hg : adG zs d
  · rw [adL_no hg] at h; exact Or.inr h
  · rw [adL_yes hg] at h; exact ins_mem.1 h
theorem ins_all : ∀ {zs : List D} {d : D}, (∀ x ∈ zs, Ig.lt d.nm x.nm = false) → insD zs d = zs ++ [d]
  | [], d, _ => rfl
  | x :: r, d, h => by
    rw [insD, if_neg (by rw [h x (List.mem_cons_self ..)]; decide), ins_all fun y hy => h y (List.mem_cons_of_mem _ hy)]; rfl
theorem ins_more : ∀ {zs : List D} {d y : D}, (∃ x ∈ zs, Ig.lt d.nm x.nm = true) → insD (zs ++ [y]) d = insD zs d ++ [y]
  | [], d, y, h => by obtain ⟨x, hx, _⟩ := h; cases hx
  | x :: r, d, y, h => by
    rw [List.cons_append, insD, insD]
    by_cases c : Ig.lt d.nm x.nm = true
    · rw [if_pos c, if_pos c]; rfl
    · rw [if_neg c, if_neg c, ins_more (by
        obtain ⟨z, hz, hc⟩ := h
        rcases List.mem_cons.1 hz with rfl | hz
        · exact absurd hc c
        · exact ⟨z, hz, hc⟩)]; rfl
theorem ins_now {zs : List D} {d y : D} (h : ∀ x ∈ zs, Ig.lt d.nm x.nm = false) (hy : Ig.lt d.nm y.nm = true) : insD (zs ++ [y]) d = (zs ++ [d]) ++ [y] := by
  induction zs with
  | nil => rw [List.nil_append, insD, if_pos hy]; rfl
  | cons x r ih =>
    rw [List.cons_append, insD, if_neg (by rw [h x (List.mem_cons_self ..)]; decide), ih fun z hz => h z (List.mem_cons_of_mem _ hz)]; rfl
/-- Behind a name: not before it, and not the same. -/
theorem lt_swap {a b : ByteArray} (h : sb a b = false) : (!(Ig.lt a b || sb a b)) = Ig.lt b a := by
  have hn : a.toList ≠ b.toList := fun e => by unfold sb at h; rw [e] at h; simp at h
  rw [h, Bool.or_false]
  cases c : Ig.lt a b
  · rw [lt_other c hn]; rfl
  · cases k : Ig.lt b a
    · rfl
    · have := lt_trans c k
      rw [lt_irrefl] at this; cases this
/-- What has been put together behind the first devices. -/
def At (zs : List D) (d : D) (k : Nat) (dn : Bool) : Prop := if dn = true then ∃ x ∈ zs.take k, Ig.lt d.nm x.nm = true else ∀ x ∈ zs.take k, Ig.lt d.nm x.nm = false
def row (zs : List D) (d : D) (k : Nat) (dn : Bool) : List D := if dn = true then insD (zs.take k) d else zs.take k
theorem at_zero (zs : List D) (d : D) : At zs d 0 false := by
  show ∀ x ∈ zs.take 0, _
  intro x hx; simp at hx
theorem row_no (zs : List D) (d : D) (k : Nat) : row zs d k false = zs.take k := rfl
theorem row_yes (zs : List D) (d : D) (k : Nat) : row zs d k true = insD (zs.take k) d := rfl
theorem row_len (zs : List D) (d : D) (k : Nat) (dn : Bool) (h : k ≤ zs.length) : (row zs d k dn).length = if dn = true then k + 1 else k := by
  cases dn
  · rw [row_no, List.length_take, Nat.min_eq_left h]; rfl
  · rw [row_yes, ins_len, List.length_take, Nat.min_eq_left h]; rfl
theorem take_one {zs : List D} {k : Nat} {z : D} (hz : zs[k]? = some z) : zs.take (k + 1) = zs.take k ++ [z] := by
  obtain ⟨hk, rfl⟩ := List.getElem?_eq_some_iff.1 hz
  exact List.take_succ_eq_append_getElem hk
theorem at_more {zs : List D} {d z : D} {k : Nat} (hz : zs[k]? = some z) (h : At zs d k true) : At zs d (k + 1) true ∧ row zs d (k + 1) true = row zs d k true ++ [z] := by
  have h : ∃ x ∈ zs.take k, Ig.lt d.nm x.nm = true := h
  refine ⟨?_, ?_⟩
  · show ∃ x ∈ zs.take (k + 1), _
    obtain ⟨x, hx, hc⟩ := h
    exact ⟨x, by rw [take_one hz]; exact List.mem_append_left _ hx, hc⟩
  · rw [row_yes, row_yes, take_one hz, ins_more h]
theorem at_now {zs : List D} {d z : D} {k : Nat} (hz : zs[k]? = some z) (h : At zs d k false) (hc : Ig.lt d.nm z.nm = true) : At zs d (k + 1) true ∧ row zs d (k + 1) true = (row zs d k false ++ [d]) ++ [z] := by
  have h : ∀ x ∈ zs.take k, Ig.lt d.nm x.nm = false := h
  refine ⟨?_, ?_⟩
  · show ∃ x ∈ zs.take (k + 1), _
    exact ⟨z, by rw [take_one hz]; exact List.mem_append_right _ (List.mem_singleton_self _), hc⟩
  · rw [row_yes, row_no, take_one hz, ins_now h hc]
theorem at_not {zs : List D} {d z : D} {k : Nat} (hz : zs[k]? = some z) (h : At zs d k false) (hc : Ig.lt d.nm z.nm = false) : At zs d (k + 1) false ∧ row zs d (k + 1) false = row zs d k false ++ [z] := by
  have h : ∀ x ∈ zs.take k, Ig.lt d.nm x.nm = false := h
  refine ⟨?_, ?_⟩
  · show ∀ x ∈ zs.take (k + 1), _
    intro x hx
    rw [take_one hz] at hx
    rcases List.mem_append.1 hx with hx | hx
    · exact h x hx
    · rw [List.mem_singleton.1 hx]; exact hc
  · rw [row_no, row_no, take_one hz]
theorem at_end {zs : List D} {d : D} (dn : Bool) (h : At zs d zs.length dn) : insD zs d = if dn = true then row zs d zs.length true else row zs d zs.length false ++ [d] := by
  cases dn
  · have h : ∀ x ∈ zs.take zs.length, Ig.lt d.nm x.nm = false := h
    rw [List.take_length] at h
    rw [ins_all h, row_no, List.take_length]; rfl
  · rw [row_yes, List.take_length]; rfl
end Go.Proofs.Ytgcheplneolonab.Adn
namespace Go.Proofs.Ytgcheplneolonab.Ad
open Go.RowKit Go.ChangeShapes Go.WideShapes Go.WideElems Go.Deep Go.Proofs.Ytgcheplneolonab.Mem Go.Proofs.Ytgcheplneolonab.Rw Go.Proofs.Ytgcheplneolonab.Pw Go.Proofs.Ytgcheplneolonab.P2 Go.Proofs.Ytgcheplneolonab.Dd Go.Proofs.Ytgcheplneolonab.Dv Go.Proofs.Ytgcheplneolonab.Dl Go.Proofs.Ytgcheplneolonab.Ds Go.Proofs.Ytgcheplneolonab.Fd Go.Proofs.Ytgcheplneolonab.Ch Go.Proofs.Ytgcheplneolonab.Hn Go.Proofs.Ytgcheplneolonab.Po
set_option linter.unusedVariables false
set_option linter.unusedSimpArgs false
open Go.Proofs.Ytgcheplneolonab.Ho Go.Proofs.Ytgcheplneolonab.Pa Go.Proofs.Ytgcheplneolonab.Di Go.Proofs.Ytgcheplneolonab.Ig Go.Proofs.Ytgcheplneolonab.Ir Go.Proofs.Ytgcheplneolonab.Iq Go.Proofs.Ytgcheplneolonab.IsName Go.Proofs.Ytgcheplneolonab.Mo Go.Proofs.Ytgcheplneolonab.Sg Go.Proofs.Ytgcheplneolonab.Rm Go.Proofs.Ytgcheplneolonab.Rz Go.Proofs.Ytgcheplneolonab.Adn
open Go.Proofs.Ytgcheplneolonab.Rw (owns_below owns_grown owns_base)
open Go.Proofs.Ytgcheplneolonab.Bxd

set_option maxHeartbeats 8000000 in
set_option maxRecDepth 100000 in
theorem addS (b0 o0 n0 c9 : Nat) (zs : List D) (n : ByteArray) (q : Int) (l : ByteArray) (x y h t m : Int) (w : World) (hn : zs.length = n0) (hb : n0 ≤ 1048576) (hsz : ∀ z ∈ zs, z.nm.size ≤ 1048576 ∧ z.ln.size ≤ 1048576) (hsn : n.size ≤ 1048576) (hsl : l.size ≤ 1048576) (hr : Rd w w.heap.size (some ⟨b0, o0, none⟩) (dls zs)) :
    Calls Try.prog 15 #[.slice (some ⟨b0, o0, none⟩) n0 c9, va n q l x y h t m] w (RowB w (adL zs ⟨n, q, l, x, y, h, t, m⟩) (adG zs ⟨n, q, l, x, y, h, t, m⟩)) := by
  have hu : undef = Value.tuple #[] := rfl
  have HR := Lib.hid hr
  have HN := Lib.hid hn
  have HX0 := Lib.hid (Bx.new w n q l x y h t m)
  have BW := Lib.hid (show Below w.heap.size w (w.alloc (.cells (ca n q l x y h t m) 28)) from (Below.refl _ _).alloc (Nat.le_refl _) _)
  have hs0 : (w.alloc (.cells (ca n q l x y h t m) 28)).heap.size = w.heap.size + 1 := by simp
  have CC := Lib.hid (fun (W : World) (hW : Below w.heap.size w W) => copiesD ⟨b0, o0, none⟩ n0 c9 zs W hn hb ((hr.below hW).more hW.size))
  have CS := Lib.hid (fun (W : World) (hW : Below w.heap.size w W) => rigS (some ⟨b0, o0, none⟩) n0 c9 zs W hn hb hsz ((hr.below hW).more hW.size))
  have CF := Lib.hid (fun (W : World) (hW : Below w.heap.size w W) => findS (some ⟨b0, o0, none⟩) n0 c9 zs n W hn hb ((hr.below hW).more hW.size))
  have CH := Lib.hid (fun (W : World) (hW : Below w.heap.size w W) => hangsS (some ⟨b0, o0, none⟩) n0 c9 zs n q l x y h t m W hn hb ((hr.below hW).more hW.size))
  have CI := isDeviceS n q l x y h t m hsn hsl
  obtain ⟨sc, hsc⟩ : ∃ b, rig zs = b := ⟨_, rfl⟩
  obtain ⟨cb, hcb⟩ : ∃ b, dB ⟨n, q, l, x, y, h, t, m⟩ = b := ⟨_, rfl⟩
  obtain ⟨fk, hfk⟩ : ∃ b, fd zs n = b := ⟨_, rfl⟩
  obtain ⟨hg, hhg⟩ : ∃ b, hgV zs q l = b := ⟨_, rfl⟩
  have HG := Lib.hid (show adG zs ⟨n, q, l, x, y, h, t, m⟩ = (sc && (cb && (decide (fk < 0) && (decide (n0 ≠ 8) && hg)))) by unfold adG; rw [hsc, hcb, hn]; show (sc && (cb && (decide (fd zs n < 0) && (decide (n0 ≠ 8) && hgV zs q l)))) = _; rw [hfk, hhg])
  have HFN := Lib.hid (show fk < 0 → ∀ d ∈ zs, sb d.nm n = false from fun hf => fd_none.1 (by rw [hfk]; exact hf))
  rw [hsc] at CS
  rw [show devB n q l x y h t m = cb from hcb] at CI
  rw [hfk] at CF
  rw [hhg] at CH
  have CI := Lib.hid CI
  clear hr hsc hcb hfk hhg hsz hsn hsl hn
  generalize hW0 : w.alloc (.cells (ca n q l x y h t m) 28) = W0 at *
  have HW0 := Lib.hid hW0
  have HS0 := Lib.hid hs0
  clear hW0 hs0
  cases sc
  · have B0 := Lib.hid (Below.refl (w.heap.size + 1) W0)
    have V0 := Lib.hid BW.out
    have X0 := Lib.hid HX0.out
    have x0 := X0.out.lt
    obtain ⟨e0, e1, e2, e3, e4, e5, e6, e7⟩ := X0.out.c
    go_enter Try.func15, Try.ntmps15
    go_wp2_with fail
    rw [HW0.out]
    refine (CS.out _ V0.out).mono ?_
    rintro e w1 ⟨rfl, hb9⟩
    clear x0 e0 e1 e2 e3 e4 e5 e6 e7
    have B1 := Lib.hid (B0.out.trans (hb9.mono (by have := B0.out.size; have := HS0.out; omega)))
    have V1 := Lib.hid (BW.out.trans (B1.out.mono (Nat.le_succ _)))
    have X1 := Lib.hid (HX0.out.below B1.out (Nat.lt_succ_self _))
    clear hb9 B0 V0 X0
    have x1 := X1.out.lt
    obtain ⟨e0, e1, e2, e3, e4, e5, e6, e7⟩ := X1.out.c
    go_wp2_with fail
    refine (CC.out _ V1.out).mono ?_
    rintro e w9 ⟨g, c, rfl, ho, hb9⟩
    have B9 := Lib.hid (V1.out.trans (hb9.mono V1.out.size))
    have RO := Lib.hid (owns_base ho (Nat.le_trans V1.out.size (ho.lt g rfl).1))
    clear ho hb9
    go_wp2_with fail
    go_returns
    have hg9 : adG zs ⟨n, q, l, x, y, h, t, m⟩ = false := by rw [HG.out]; rfl
    rw [adL_no hg9, hg9]
    exact ⟨g, c, rfl, RO.out, B9.out⟩
  cases cb
  · have B0 := Lib.hid (Below.refl (w.heap.size + 1) W0)
    have V0 := Lib.hid BW.out
    have X0 := Lib.hid HX0.out
    have x0 := X0.out.lt
    obtain ⟨e0, e1, e2, e3, e4, e5, e6, e7⟩ := X0.out.c
    go_enter Try.func15, Try.ntmps15
    go_wp2_with fail
    rw [HW0.out]
    refine (CS.out _ V0.out).mono ?_
    rintro e w1 ⟨rfl, hb9⟩
    clear x0 e0 e1 e2 e3 e4 e5 e6 e7
    have B1 := Lib.hid (B0.out.trans (hb9.mono (by have := B0.out.size; have := HS0.out; omega)))
    have V1 := Lib.hid (BW.out.trans (B1.out.mono (Nat.le_succ _)))
    have X1 := Lib.hid (HX0.out.below B1.out (Nat.lt_succ_self _))
    clear hb9 B0 V0 X0
    have x1 := X1.out.lt
    obtain ⟨e0, e1, e2, e3, e4, e5, e6, e7⟩ := X1.out.c
    go_wp2_with fail
    refine (CI.out _).mono ?_
    rintro e w2 ⟨rfl, hb9⟩
    clear x1 e0 e1 e2 e3 e4 e5 e6 e7
    have B2 := Lib.hid (B1.out.trans (hb9.mono (by have := B1.out.size; have := HS0.out; omega)))
    have V2 := Lib.hid (BW.out.trans (B2.out.mono (Nat.le_succ _)))
    have X2 := Lib.hid (HX0.out.below B2.out (Nat.lt_succ_self _))
    clear hb9 B1 V1 X1
    have x2 := X2.out.lt
    obtain ⟨e0, e1, e2, e3, e4, e5, e6, e7⟩ := X2.out.c
    go_wp2_with fail
    refine (CC.out _ V2.out).mono ?_
    rintro e w9 ⟨g, c, rfl, ho, hb9⟩
    have B9 := Lib.hid (V2.out.trans (hb9.mono V2.out.size))
    have RO := Lib.hid (owns_base ho (Nat.le_trans V2.out.size (ho.lt g rfl).1))
    clear ho hb9
    go_wp2_with fail
    go_returns
    have hg9 : adG zs ⟨n, q, l, x, y, h, t, m⟩ = false := by rw [HG.out]; rfl
    rw [adL_no hg9, hg9]
    exact ⟨g, c, rfl, RO.out, B9.out⟩
  by_cases hf : fk < 0
  rotate_left 1
  · have hf2 : 0 ≤ fk := by omega
    have HF := Lib.hid hf
    have B0 := Lib.hid (Below.refl (w.heap.size + 1) W0)
    have V0 := Lib.hid BW.out
    have X0 := Lib.hid HX0.out
    have x0 := X0.out.lt
    obtain ⟨e0, e1, e2, e3, e4, e5, e6, e7⟩ := X0.out.c
    go_enter Try.func15, Try.ntmps15
    go_wp2_with fail
    rw [HW0.out]
    refine (CS.out _ V0.out).mono ?_
    rintro e w1 ⟨rfl, hb9⟩
    clear x0 e0 e1 e2 e3 e4 e5 e6 e7
    have B1 := Lib.hid (B0.out.trans (hb9.mono (by have := B0.out.size; have := HS0.out; omega)))
    have V1 := Lib.hid (BW.out.trans (B1.out.mono (Nat.le_succ _)))
    have X1 := Lib.hid (HX0.out.below B1.out (Nat.lt_succ_self _))
    clear hb9 B0 V0 X0
    have x1 := X1.out.lt
    obtain ⟨e0, e1, e2, e3, e4, e5, e6, e7⟩ := X1.out.c
    go_wp2_with fail
    refine (CI.out _).mono ?_
    rintro e w2 ⟨rfl, hb9⟩
    clear x1 e0 e1 e2 e3 e4 e5 e6 e7
    have B2 := Lib.hid (B1.out.trans (hb9.mono (by have := B1.out.size; have := HS0.out; omega)))
    have V2 := Lib.hid (BW.out.trans (B2.out.mono (Nat.le_succ _)))
    have X2 := Lib.hid (HX0.out.below B2.out (Nat.lt_succ_self _))
    clear hb9 B1 V1 X1
    have x2 := X2.out.lt
    obtain ⟨e0, e1, e2, e3, e4, e5, e6, e7⟩ := X2.out.c
    go_wp2_with fail
    refine (CF.out _ V2.out).mono ?_
    rintro e w3 ⟨rfl, hb9⟩
    clear x2 e0 e1 e2 e3 e4 e5 e6 e7
    have B3 := Lib.hid (B2.out.trans (hb9.mono (by have := B2.out.size; have := HS0.out; omega)))
    have V3 := Lib.hid (BW.out.trans (B3.out.mono (Nat.le_succ _)))
    have X3 := Lib.hid (HX0.out.below B3.out (Nat.lt_succ_self _))
    clear hb9 B2 V2 X2
    have x3 := X3.out.lt
    obtain ⟨e0, e1, e2, e3, e4, e5, e6, e7⟩ := X3.out.c
    go_wp2_with fail
    refine (CC.out _ V3.out).mono ?_
    rintro e w9 ⟨g, c, rfl, ho, hb9⟩
    have B9 := Lib.hid (V3.out.trans (hb9.mono V3.out.size))
    have RO := Lib.hid (owns_base ho (Nat.le_trans V3.out.size (ho.lt g rfl).1))
    clear ho hb9
    go_wp2_with fail
    go_returns
    have hg9 : adG zs ⟨n, q, l, x, y, h, t, m⟩ = false := by rw [HG.out]; rw [decide_eq_false (show ¬ fk < 0 by have := HF.out; omega)]; simp
    rw [adL_no hg9, hg9]
    exact ⟨g, c, rfl, RO.out, B9.out⟩
  by_cases h8 : n0 = 8
  · have g8 : ((n0 : Int) == 8) = true := by simp [h8]
    have H8 := Lib.hid h8
    clear h8
    have B0 := Lib.hid (Below.refl (w.heap.size + 1) W0)
    have V0 := Lib.hid BW.out
    have X0 := Lib.hid HX0.out
    have x0 := X0.out.lt
    obtain ⟨e0, e1, e2, e3, e4, e5, e6, e7⟩ := X0.out.c
    go_enter Try.func15, Try.ntmps15
    go_wp2_with fail
    rw [HW0.out]
    refine (CS.out _ V0.out).mono ?_
    rintro e w1 ⟨rfl, hb9⟩
    clear x0 e0 e1 e2 e3 e4 e5 e6 e7
    have B1 := Lib.hid (B0.out.trans (hb9.mono (by have := B0.out.size; have := HS0.out; omega)))
    have V1 := Lib.hid (BW.out.trans (B1.out.mono (Nat.le_succ _)))
    have X1 := Lib.hid (HX0.out.below B1.out (Nat.lt_succ_self _))
    clear hb9 B0 V0 X0
    have x1 := X1.out.lt
    obtain ⟨e0, e1, e2, e3, e4, e5, e6, e7⟩ := X1.out.c
    go_wp2_with fail
    refine (CI.out _).mono ?_
    rintro e w2 ⟨rfl, hb9⟩
    clear x1 e0 e1 e2 e3 e4 e5 e6 e7
    have B2 := Lib.hid (B1.out.trans (hb9.mono (by have := B1.out.size; have := HS0.out; omega)))
    have V2 := Lib.hid (BW.out.trans (B2.out.mono (Nat.le_succ _)))
    have X2 := Lib.hid (HX0.out.below B2.out (Nat.lt_succ_self _))
    clear hb9 B1 V1 X1
    have x2 := X2.out.lt
    obtain ⟨e0, e1, e2, e3, e4, e5, e6, e7⟩ := X2.out.c
    go_wp2_with fail
    refine (CF.out _ V2.out).mono ?_
    rintro e w3 ⟨rfl, hb9⟩
    clear x2 e0 e1 e2 e3 e4 e5 e6 e7
    have B3 := Lib.hid (B2.out.trans (hb9.mono (by have := B2.out.size; have := HS0.out; omega)))
    have V3 := Lib.hid (BW.out.trans (B3.out.mono (Nat.le_succ _)))
    have X3 := Lib.hid (HX0.out.below B3.out (Nat.lt_succ_self _))
    clear hb9 B2 V2 X2
    have x3 := X3.out.lt
    obtain ⟨e0, e1, e2, e3, e4, e5, e6, e7⟩ := X3.out.c
    go_wp2_with fail
    refine (CC.out _ V3.out).mono ?_
    rintro e w9 ⟨g, c, rfl, ho, hb9⟩
    have B9 := Lib.hid (V3.out.trans (hb9.mono V3.out.size))
    have RO := Lib.hid (owns_base ho (Nat.le_trans V3.out.size (ho.lt g rfl).1))
    clear ho hb9
    go_wp2_with fail
    go_returns
    have hg9 : adG zs ⟨n, q, l, x, y, h, t, m⟩ = false := by rw [HG.out]; rw [decide_eq_false (show ¬ n0 ≠ 8 from fun h => h H8.out)]; simp
    rw [adL_no hg9, hg9]
    exact ⟨g, c, rfl, RO.out, B9.out⟩
  have g8 : ((n0 : Int) == 8) = false := by simp; omega
  have H8 := Lib.hid h8
  clear h8
  cases hg
  · have B0 := Lib.hid (Below.refl (w.heap.size + 1) W0)
    have V0 := Lib.hid BW.out
    have X0 := Lib.hid HX0.out
    have x0 := X0.out.lt
    obtain ⟨e0, e1, e2, e3, e4, e5, e6, e7⟩ := X0.out.c
    go_enter Try.func15, Try.ntmps15
    go_wp2_with fail
    rw [HW0.out]
    refine (CS.out _ V0.out).mono ?_
    rintro e w1 ⟨rfl, hb9⟩
    clear x0 e0 e1 e2 e3 e4 e5 e6 e7
    have B1 := Lib.hid (B0.out.trans (hb9.mono (by have := B0.out.size; have := HS0.out; omega)))
    have V1 := Lib.hid (BW.out.trans (B1.out.mono (Nat.le_succ _)))
    have X1 := Lib.hid (HX0.out.below B1.out (Nat.lt_succ_self _))
    clear hb9 B0 V0 X0
    have x1 := X1.out.lt
    obtain ⟨e0, e1, e2, e3, e4, e5, e6, e7⟩ := X1.out.c
    go_wp2_with fail
    refine (CI.out _).mono ?_
    rintro e w2 ⟨rfl, hb9⟩
    clear x1 e0 e1 e2 e3 e4 e5 e6 e7
    have B2 := Lib.hid (B1.out.trans (hb9.mono (by have := B1.out.size; have := HS0.out; omega)))
    have V2 := Lib.hid (BW.out.trans (B2.out.mono (Nat.le_succ _)))
    have X2 := Lib.hid (HX0.out.below B2.out (Nat.lt_succ_self _))
    clear hb9 B1 V1 X1
    have x2 := X2.out.lt
    obtain ⟨e0, e1, e2, e3, e4, e5, e6, e7⟩ := X2.out.c
    go_wp2_with fail
    refine (CF.out _ V2.out).mono ?_
    rintro e w3 ⟨rfl, hb9⟩
    clear x2 e0 e1 e2 e3 e4 e5 e6 e7
    have B3 := Lib.hid (B2.out.trans (hb9.mono (by have := B2.out.size; have := HS0.out; omega)))
    have V3 := Lib.hid (BW.out.trans (B3.out.mono (Nat.le_succ _)))
    have X3 := Lib.hid (HX0.out.below B3.out (Nat.lt_succ_self _))
    clear hb9 B2 V2 X2
    have x3 := X3.out.lt
    obtain ⟨e0, e1, e2, e3, e4, e5, e6, e7⟩ := X3.out.c
    go_wp2_with fail
    refine (CH.out _ V3.out).mono ?_
    rintro e w4 ⟨rfl, hb9⟩
    clear x3 e0 e1 e2 e3 e4 e5 e6 e7
    have B4 := Lib.hid (B3.out.trans (hb9.mono (by have := B3.out.size; have := HS0.out; omega)))
    have V4 := Lib.hid (BW.out.trans (B4.out.mono (Nat.le_succ _)))
    have X4 := Lib.hid (HX0.out.below B4.out (Nat.lt_succ_self _))
    clear hb9 B3 V3 X3
    have x4 := X4.out.lt
    obtain ⟨e0, e1, e2, e3, e4, e5, e6, e7⟩ := X4.out.c
    go_wp2_with fail
    refine (CC.out _ V4.out).mono ?_
    rintro e w9 ⟨g, c, rfl, ho, hb9⟩
    have B9 := Lib.hid (V4.out.trans (hb9.mono V4.out.size))
    have RO := Lib.hid (owns_base ho (Nat.le_trans V4.out.size (ho.lt g rfl).1))
    clear ho hb9
    go_wp2_with fail
    go_returns
    have hg9 : adG zs ⟨n, q, l, x, y, h, t, m⟩ = false := by rw [HG.out]; simp
    rw [adL_no hg9, hg9]
    exact ⟨g, c, rfl, RO.out, B9.out⟩
  have B0 := Lib.hid (Below.refl (w.heap.size + 1) W0)
  have V0 := Lib.hid BW.out
  have X0 := Lib.hid HX0.out
  have x0 := X0.out.lt
  obtain ⟨e0, e1, e2, e3, e4, e5, e6, e7⟩ := X0.out.c
  go_enter Try.func15, Try.ntmps15
  go_wp2_with fail
  rw [HW0.out]
  refine (CS.out _ V0.out).mono ?_
  rintro e w1 ⟨rfl, hb9⟩
  clear x0 e0 e1 e2 e3 e4 e5 e6 e7
  have B1 := Lib.hid (B0.out.trans (hb9.mono (by have := B0.out.size; have := HS0.out; omega)))
  have V1 := Lib.hid (BW.out.trans (B1.out.mono (Nat.le_succ _)))
  have X1 := Lib.hid (HX0.out.below B1.out (Nat.lt_succ_self _))
  clear hb9 B0 V0 X0
  have x1 := X1.out.lt
  obtain ⟨e0, e1, e2, e3, e4, e5, e6, e7⟩ := X1.out.c
  go_wp2_with fail
  refine (CI.out _).mono ?_
  rintro e w2 ⟨rfl, hb9⟩
  clear x1 e0 e1 e2 e3 e4 e5 e6 e7
  have B2 := Lib.hid (B1.out.trans (hb9.mono (by have := B1.out.size; have := HS0.out; omega)))
  have V2 := Lib.hid (BW.out.trans (B2.out.mono (Nat.le_succ _)))
  have X2 := Lib.hid (HX0.out.below B2.out (Nat.lt_succ_self _))
  clear hb9 B1 V1 X1
  have x2 := X2.out.lt
  obtain ⟨e0, e1, e2, e3, e4, e5, e6, e7⟩ := X2.out.c
  go_wp2_with fail
  refine (CF.out _ V2.out).mono ?_
  rintro e w3 ⟨rfl, hb9⟩
  clear x2 e0 e1 e2 e3 e4 e5 e6 e7
  have B3 := Lib.hid (B2.out.trans (hb9.mono (by have := B2.out.size; have := HS0.out; omega)))
  have V3 := Lib.hid (BW.out.trans (B3.out.mono (Nat.le_succ _)))
  have X3 := Lib.hid (HX0.out.below B3.out (Nat.lt_succ_self _))
  clear hb9 B2 V2 X2
  have x3 := X3.out.lt
  obtain ⟨e0, e1, e2, e3, e4, e5, e6, e7⟩ := X3.out.c
  go_wp2_with fail
  refine (CH.out _ V3.out).mono ?_
  rintro e w4 ⟨rfl, hb9⟩
  clear x3 e0 e1 e2 e3 e4 e5 e6 e7
  have B4 := Lib.hid (B3.out.trans (hb9.mono (by have := B3.out.size; have := HS0.out; omega)))
  have V4 := Lib.hid (BW.out.trans (B4.out.mono (Nat.le_succ _)))
  have X4 := Lib.hid (HX0.out.below B4.out (Nat.lt_succ_self _))
  clear hb9 B3 V3 X3
  have x4 := X4.out.lt
  obtain ⟨e0, e1, e2, e3, e4, e5, e6, e7⟩ := X4.out.c
  clear x4 e0 e1 e2 e3 e4 e5 e6 e7
  have HGT := Lib.hid (show adG zs ⟨n, q, l, x, y, h, t, m⟩ = true by rw [HG.out, decide_eq_true hf, decide_eq_true H8.out]; rfl)
  have HNN := Lib.hid (HFN.out hf)
  have hsw4 : w.heap.size + 1 ≤ w4.heap.size := by have := B4.out.size; have := HS0.out; omega
  have R0 := Lib.hid (World.ownsRow_lit (base := w.heap.size + 1) (e := 28) (size := 8) w4 #[] 0 hsw4 (Nat.zero_le _) rfl)
  have BA := Lib.hid (B4.out.alloc (by have := HS0.out; omega) (.cells #[] 28))
  obtain ⟨i0, hi, hz0, hz1, hz2⟩ := info_of infoD
  clear hsw4 B4 V4 X4
  go_wp2_with fail
  go_loopw [6, 7, 41] (fun v dv i wr => ∃ (k q2 : Nat) (dn : Bool), k ≤ n0 ∧ i = .int .i64 k ∧ dv = .bool dn ∧ q2 ≤ k + 1 ∧ (∃ g c, v = .slice (some ⟨g, 0, none⟩) q2 c) ∧ Hid (q2 = if dn = true then k + 1 else k) ∧ Hid (Adn.At zs ⟨n, q, l, x, y, h, t, m⟩ k dn) ∧ Hid (wr.ownsRow (w.heap.size + 1) 28 8 v q2 (dls (row zs ⟨n, q, l, x, y, h, t, m⟩ k dn))) ∧ Hid (Below (w.heap.size + 1) W0 wr)) (fun _ _ i _ => n0 - (intOf i).toNat)
  case atStart => exact ⟨0, 0, false, Nat.zero_le _, rfl, rfl, Nat.zero_le _, ⟨_, _, rfl⟩, Lib.hid rfl, Lib.hid (at_zero _ _), R0, BA⟩
  case round =>
    obtain ⟨k, q2, dn, hk, rfl, rfl, hq2, ⟨gb, gc, rfl⟩, QK, AK, RK, BK⟩ := hrel
    clear R0 BA
    have hsw : w.heap.size + 1 ≤ wr.heap.size := by have := BK.out.size; have := HS0.out; omega
    have hx : w.heap.size < wr.heap.size := hsw
    have XK := Lib.hid (HX0.out.below BK.out (Nat.lt_succ_self _))
    by_cases hlt : k < n0
    · obtain ⟨z, hz⟩ : ∃ z, zs[k]? = some z := ⟨_, List.getElem?_eq_getElem (by rw [HN.out]; exact hlt)⟩
      have HZ := Lib.hid hz
      have RW := Lib.hid ((HR.out.below BW.out).below (Below.mono BK.out (Nat.le_succ _)))
      have hsb := HNN.out z (List.mem_of_getElem? hz)
      obtain ⟨bb, hbb⟩ : ∃ r, Ig.lt n z.nm = r := ⟨_, rfl⟩
      have hgt := Ig.run_gtr z.nm n
      rw [show (!(Ig.lt z.nm n || z.nm.toList == n.toList)) = bb from (lt_swap hsb).trans hbb] at hgt
      have HBB := Lib.hid hbb
      have sl1 : Op.bytesLess z.nm.toList n.toList = !bb := by
        have h1 := (lt_swap hsb).trans hbb
        rw [hsb, Bool.or_false] at h1
        rw [← h1, Bool.not_not]; rfl
      have sl2 : (z.nm.toList == n.toList) = false := hsb
      clear hsb hbb
      obtain ⟨n2, k2, l2, x2, y2, h2, t2, m2⟩ := z
      obtain ⟨b, o, eA, hbl, hcell⟩ := (RW.out).get (k := k * 8) (by rw [dls_len, HN.out]; omega)
      obtain ⟨z0, z1, z2, z3, z4, z5, z6, z7⟩ := dls_get hz
      have c0 := hcell (k * 8) _ z0
      have c1 := hcell (k * 8 + 1) _ z1
      rw [← Nat.add_assoc] at c1
      have c2 := hcell (k * 8 + 2) _ z2
      rw [← Nat.add_assoc] at c2
      have c3 := hcell (k * 8 + 3) _ z3
      rw [← Nat.add_assoc] at c3
      have c4 := hcell (k * 8 + 4) _ z4
      rw [← Nat.add_assoc] at c4
      have c5 := hcell (k * 8 + 5) _ z5
      rw [← Nat.add_assoc] at c5
      have c6 := hcell (k * 8 + 6) _ z6
      rw [← Nat.add_assoc] at c6
      have c7 := hcell (k * 8 + 7) _ z7
      rw [← Nat.add_assoc] at c7
      clear hcell z0 z1 z2 z3 z4 z5 z6 z7 hz
      obtain ⟨rfl, rfl⟩ : b0 = b ∧ o0 = o := by injection eA with eA; injection eA with e1 e2; exact ⟨e1, e2⟩
      cases dn
      · cases bb
        · obtain rfl : q2 = k := QK.out
          obtain ⟨a1, a2⟩ := at_not HZ.out AK.out HBB.out
          have A1 := Lib.hid a1
          have A2 := Lib.hid (congrArg dls a2)
          clear a1 a2
          obtain ⟨y0, y1, y2z, y3, y4, y5, y6, y7⟩ := XK.out.c
          have hgb : w.heap.size + 1 ≤ gb ∧ gb < wr.heap.size := RK.out.lt gb rfl
          have XZ := Lib.hid (Bx.new wr n2 k2 l2 x2 y2 h2 t2 m2)
          have hown := (RK.out.alloc (.cells (ca n2 k2 l2 x2 y2 h2 t2 m2) 28)).alloc (.cells (ca n2 k2 l2 x2 y2 h2 t2 m2) 28)
          have hcz := (Bx.new (wr.alloc (.cells (ca n2 k2 l2 x2 y2 h2 t2 m2) 28)) n2 k2 l2 x2 y2 h2 t2 m2).c
          rw [show (wr.alloc (.cells (ca n2 k2 l2 x2 y2 h2 t2 m2) 28)).heap.size = wr.heap.size + 1 by simp] at hcz
          go_wp2_with (at_builtin; refine wpList_append_own _ rfl _ _ 24 rfl (w.heap.size + 1) 28 i0 (.agg #[.string ⟨#[]⟩, .int .i64 0, .string ⟨#[]⟩, .int .i64 0, .int .i64 0, .int .i64 0, .int .i64 0, .int .i64 0]) 8 80 Try.underlying24 hi hz0 hz1 hz2 rfl (by decide) _ _ _ rfl (hown) ⟨wr.heap.size + 1, 0, none⟩ 1 1 [.string n2, .int .i64 k2, .string l2, .int .i64 x2, .int .i64 y2, .int .i64 h2, .int .i64 t2, .int .i64 m2] rfl rfl ((by intro j u hj; match j, hj with | 0, hj => (simp at hj; subst hj; simp [Addr.add]) | 1, hj => (simp at hj; subst hj; simp [Addr.add]) | 2, hj => (simp at hj; subst hj; simp [Addr.add]) | 3, hj => (simp at hj; subst hj; simp [Addr.add]) | 4, hj => (simp at hj; subst hj; simp [Addr.add]) | 5, hj => (simp at hj; subst hj; simp [Addr.add]) | 6, hj => (simp at hj; subst hj; simp [Addr.add]) | 7, hj => (simp at hj; subst hj; simp [Addr.add]))) (by intro u hu9; simp at hu9; rcases hu9 with rfl | rfl | rfl | rfl | rfl | rfl | rfl | rfl <;> rfl) (by unfold maxLen; omega) (by omega) (by simp; omega) ?_)
          intro v' w5 hown' hgrow hnil
          rw [show dls (row zs ⟨n, q, l, x, y, h, t, m⟩ q2 false) ++ [.string n2, .int .i64 k2, .string l2, .int .i64 x2, .int .i64 y2, .int .i64 h2, .int .i64 t2, .int .i64 m2] = dls (row zs ⟨n, q, l, x, y, h, t, m⟩ (q2 + 1) false) from (dls_snoc _ ⟨n2, k2, l2, x2, y2, h2, t2, m2⟩).trans A2.out.symm] at hown'
          obtain ⟨g5, cq5, rfl⟩ := own_mk hown'
          have R6 := Lib.hid hown'
          have B6 := Lib.hid (((BK.out.alloc (by have := HS0.out; omega) (.cells (ca n2 k2 l2 x2 y2 h2 t2 m2) 28)).alloc (by have := HS0.out; simp; omega) (.cells (ca n2 k2 l2 x2 y2 h2 t2 m2) 28)).grown hgrow (by have := HS0.out; simp; omega) (fun j hj => by cases hj; exact hgb.1))
          clear hown' hgrow hnil hown hcz y0 y1 y2z y3 y4 y5 y6 y7
          go_wp2_with fail
          go_roundw
          case rel => first | exact ⟨q2 + 1, _, false, by omega, by go_num, rfl, by omega, ⟨_, _, rfl⟩, Lib.hid rfl, A1, R6, B6⟩ | ((repeat apply Exists.intro); exact ⟨⟨q2 + 1, _, false, by omega, by go_num, rfl, by omega, ⟨_, _, rfl⟩, Lib.hid rfl, A1, R6, B6⟩, rfl⟩)
          case measure => simp [intOf]; omega
        · obtain rfl : q2 = k := QK.out
          obtain ⟨a1, a2⟩ := at_now HZ.out AK.out HBB.out
          have A1 := Lib.hid a1
          have A2 := Lib.hid (congrArg dls a2)
          clear a1 a2
          obtain ⟨y0, y1, y2z, y3, y4, y5, y6, y7⟩ := XK.out.c
          have hgb : w.heap.size + 1 ≤ gb ∧ gb < wr.heap.size := RK.out.lt gb rfl
          have XZ := Lib.hid (Bx.new wr n2 k2 l2 x2 y2 h2 t2 m2)
          have hown := (RK.out.alloc (.cells (ca n2 k2 l2 x2 y2 h2 t2 m2) 28)).alloc (.cells (ca n q l x y h t m) 28)
          have hcz := (Bx.new (wr.alloc (.cells (ca n2 k2 l2 x2 y2 h2 t2 m2) 28)) n q l x y h t m).c
          rw [show (wr.alloc (.cells (ca n2 k2 l2 x2 y2 h2 t2 m2) 28)).heap.size = wr.heap.size + 1 by simp] at hcz
          go_wp2_with (at_builtin; refine wpList_append_own _ rfl _ _ 24 rfl (w.heap.size + 1) 28 i0 (.agg #[.string ⟨#[]⟩, .int .i64 0, .string ⟨#[]⟩, .int .i64 0, .int .i64 0, .int .i64 0, .int .i64 0, .int .i64 0]) 8 80 Try.underlying24 hi hz0 hz1 hz2 rfl (by decide) _ _ _ rfl (hown) ⟨wr.heap.size + 1, 0, none⟩ 1 1 [.string n, .int .i64 q, .string l, .int .i64 x, .int .i64 y, .int .i64 h, .int .i64 t, .int .i64 m] rfl rfl ((by intro j u hj; match j, hj with | 0, hj => (simp at hj; subst hj; simp [Addr.add]) | 1, hj => (simp at hj; subst hj; simp [Addr.add]) | 2, hj => (simp at hj; subst hj; simp [Addr.add]) | 3, hj => (simp at hj; subst hj; simp [Addr.add]) | 4, hj => (simp at hj; subst hj; simp [Addr.add]) | 5, hj => (simp at hj; subst hj; simp [Addr.add]) | 6, hj => (simp at hj; subst hj; simp [Addr.add]) | 7, hj => (simp at hj; subst hj; simp [Addr.add]))) (by intro u hu9; simp at hu9; rcases hu9 with rfl | rfl | rfl | rfl | rfl | rfl | rfl | rfl <;> rfl) (by unfold maxLen; omega) (by omega) (by simp; omega) ?_)
          intro v' w5 hown' hgrow hnil
          rw [show dls (row zs ⟨n, q, l, x, y, h, t, m⟩ q2 false) ++ [.string n, .int .i64 q, .string l, .int .i64 x, .int .i64 y, .int .i64 h, .int .i64 t, .int .i64 m] = dls (row zs ⟨n, q, l, x, y, h, t, m⟩ q2 false ++ [⟨n, q, l, x, y, h, t, m⟩]) from dls_snoc _ ⟨n, q, l, x, y, h, t, m⟩] at hown'
          obtain ⟨g5, cq5, rfl⟩ := own_mk hown'
          have R6 := Lib.hid hown'
          have B6 := Lib.hid (((BK.out.alloc (by have := HS0.out; omega) (.cells (ca n2 k2 l2 x2 y2 h2 t2 m2) 28)).alloc (by have := HS0.out; simp; omega) (.cells (ca n q l x y h t m) 28)).grown hgrow (by have := HS0.out; simp; omega) (fun j hj => by cases hj; exact hgb.1))
          have X6 := Lib.hid ((XZ.out.alloc (.cells (ca n q l x y h t m) 28)).grown hgrow (fun e => by have e : wr.heap.size = gb := Option.some.inj e; have := hgb.2; omega))
          have hg5 : w.heap.size + 1 ≤ w5.heap.size := by have := B6.out.size; have := HS0.out; omega
          obtain ⟨u0, u1, u2, u3, u4, u5, u6, u7⟩ := X6.out.c
          have hown := R6.out.alloc (.cells (ca n2 k2 l2 x2 y2 h2 t2 m2) 28)
          have hcz := (Bx.new w5 n2 k2 l2 x2 y2 h2 t2 m2).c
          have hg6 : w.heap.size + 1 ≤ g5 := (R6.out.lt g5 rfl).1
          clear hown' hgrow hnil y0 y1 y2z y3 y4 y5 y6 y7 c0 c1 c2 c3 c4 c5 c6 c7
          go_wp2_with (at_builtin; refine wpList_append_own _ rfl _ _ 24 rfl (w.heap.size + 1) 28 i0 (.agg #[.string ⟨#[]⟩, .int .i64 0, .string ⟨#[]⟩, .int .i64 0, .int .i64 0, .int .i64 0, .int .i64 0, .int .i64 0]) 8 80 Try.underlying24 hi hz0 hz1 hz2 rfl (by decide) _ _ _ rfl (hown) ⟨w5.heap.size, 0, none⟩ 1 1 [.string n2, .int .i64 k2, .string l2, .int .i64 x2, .int .i64 y2, .int .i64 h2, .int .i64 t2, .int .i64 m2] rfl rfl ((by intro j u hj; match j, hj with | 0, hj => (simp at hj; subst hj; simp [Addr.add]) | 1, hj => (simp at hj; subst hj; simp [Addr.add]) | 2, hj => (simp at hj; subst hj; simp [Addr.add]) | 3, hj => (simp at hj; subst hj; simp [Addr.add]) | 4, hj => (simp at hj; subst hj; simp [Addr.add]) | 5, hj => (simp at hj; subst hj; simp [Addr.add]) | 6, hj => (simp at hj; subst hj; simp [Addr.add]) | 7, hj => (simp at hj; subst hj; simp [Addr.add]))) (by intro u hu9; simp at hu9; rcases hu9 with rfl | rfl | rfl | rfl | rfl | rfl | rfl | rfl <;> rfl) (by unfold maxLen; omega) (by omega) (by simp; omega) ?_)
          intro v' w6 hown' hgrow hnil
          rw [show dls (row zs ⟨n, q, l, x, y, h, t, m⟩ q2 false ++ [⟨n, q, l, x, y, h, t, m⟩]) ++ [.string n2, .int .i64 k2, .string l2, .int .i64 x2, .int .i64 y2, .int .i64 h2, .int .i64 t2, .int .i64 m2] = dls (row zs ⟨n, q, l, x, y, h, t, m⟩ (q2 + 1) true) from (dls_snoc _ ⟨n2, k2, l2, x2, y2, h2, t2, m2⟩).trans A2.out.symm] at hown'
          obtain ⟨g7, c9x, rfl⟩ := own_mk hown'
          have R7 := Lib.hid hown'
          have B7 := Lib.hid ((B6.out.alloc (by have := HS0.out; omega) (.cells (ca n2 k2 l2 x2 y2 h2 t2 m2) 28)).grown hgrow (by have := HS0.out; simp; omega) (fun j hj => by cases hj; exact hg6))
          clear hown' hgrow hnil hown hcz u0 u1 u2 u3 u4 u5 u6 u7
          go_wp2_with fail
          go_roundw
          case rel => first | exact ⟨q2 + 1, _, true, by omega, by go_num, rfl, by omega, ⟨_, _, rfl⟩, Lib.hid rfl, A1, R7, B7⟩ | ((repeat apply Exists.intro); exact ⟨⟨q2 + 1, _, true, by omega, by go_num, rfl, by omega, ⟨_, _, rfl⟩, Lib.hid rfl, A1, R7, B7⟩, rfl⟩)
          case measure => simp [intOf]; omega
      · obtain rfl : q2 = k + 1 := QK.out
        obtain ⟨a1, a2⟩ := at_more HZ.out AK.out
        have A1 := Lib.hid a1
        have A2 := Lib.hid (congrArg dls a2)
        clear a1 a2
        obtain ⟨y0, y1, y2z, y3, y4, y5, y6, y7⟩ := XK.out.c
        have hgb : w.heap.size + 1 ≤ gb ∧ gb < wr.heap.size := RK.out.lt gb rfl
        have XZ := Lib.hid (Bx.new wr n2 k2 l2 x2 y2 h2 t2 m2)
        have hown := (RK.out.alloc (.cells (ca n2 k2 l2 x2 y2 h2 t2 m2) 28)).alloc (.cells (ca n2 k2 l2 x2 y2 h2 t2 m2) 28)
        have hcz := (Bx.new (wr.alloc (.cells (ca n2 k2 l2 x2 y2 h2 t2 m2) 28)) n2 k2 l2 x2 y2 h2 t2 m2).c
        rw [show (wr.alloc (.cells (ca n2 k2 l2 x2 y2 h2 t2 m2) 28)).heap.size = wr.heap.size + 1 by simp] at hcz
        go_wp2_with (at_builtin; refine wpList_append_own _ rfl _ _ 24 rfl (w.heap.size + 1) 28 i0 (.agg #[.string ⟨#[]⟩, .int .i64 0, .string ⟨#[]⟩, .int .i64 0, .int .i64 0, .int .i64 0, .int .i64 0, .int .i64 0]) 8 80 Try.underlying24 hi hz0 hz1 hz2 rfl (by decide) _ _ _ rfl (hown) ⟨wr.heap.size + 1, 0, none⟩ 1 1 [.string n2, .int .i64 k2, .string l2, .int .i64 x2, .int .i64 y2, .int .i64 h2, .int .i64 t2, .int .i64 m2] rfl rfl ((by intro j u hj; match j, hj with | 0, hj => (simp at hj; subst hj; simp [Addr.add]) | 1, hj => (simp at hj; subst hj; simp [Addr.add]) | 2, hj => (simp at hj; subst hj; simp [Addr.add]) | 3, hj => (simp at hj; subst hj; simp [Addr.add]) | 4, hj => (simp at hj; subst hj; simp [Addr.add]) | 5, hj => (simp at hj; subst hj; simp [Addr.add]) | 6, hj => (simp at hj; subst hj; simp [Addr.add]) | 7, hj => (simp at hj; subst hj; simp [Addr.add]))) (by intro u hu9; simp at hu9; rcases hu9 with rfl | rfl | rfl | rfl | rfl | rfl | rfl | rfl <;> rfl) (by unfold maxLen; omega) (by omega) (by simp; omega) ?_)
        intro v' w5 hown' hgrow hnil
        rw [show dls (row zs ⟨n, q, l, x, y, h, t, m⟩ k true) ++ [.string n2, .int .i64 k2, .string l2, .int .i64 x2, .int .i64 y2, .int .i64 h2, .int .i64 t2, .int .i64 m2] = dls (row zs ⟨n, q, l, x, y, h, t, m⟩ (k + 1) true) from (dls_snoc _ ⟨n2, k2, l2, x2, y2, h2, t2, m2⟩).trans A2.out.symm] at hown'
        obtain ⟨g5, cq5, rfl⟩ := own_mk hown'
        have R6 := Lib.hid hown'
        have B6 := Lib.hid (((BK.out.alloc (by have := HS0.out; omega) (.cells (ca n2 k2 l2 x2 y2 h2 t2 m2) 28)).alloc (by have := HS0.out; simp; omega) (.cells (ca n2 k2 l2 x2 y2 h2 t2 m2) 28)).grown hgrow (by have := HS0.out; simp; omega) (fun j hj => by cases hj; exact hgb.1))
        clear hown' hgrow hnil hown hcz y0 y1 y2z y3 y4 y5 y6 y7
        go_wp2_with fail
        go_roundw
        case rel => first | exact ⟨k + 1, _, true, by omega, by go_num, rfl, by omega, ⟨_, _, rfl⟩, Lib.hid rfl, A1, R6, B6⟩ | ((repeat apply Exists.intro); exact ⟨⟨k + 1, _, true, by omega, by go_num, rfl, by omega, ⟨_, _, rfl⟩, Lib.hid rfl, A1, R6, B6⟩, rfl⟩)
        case measure => simp [intOf]; omega
    · obtain rfl : k = n0 := by omega
      have EN := Lib.hid (show insD zs ⟨n, q, l, x, y, h, t, m⟩ = _ from at_end dn (by rw [HN.out]; exact AK.out))
      cases dn
      · obtain rfl : q2 = k := QK.out
        obtain ⟨y0, y1, y2z, y3, y4, y5, y6, y7⟩ := XK.out.c
        have hgb : w.heap.size + 1 ≤ gb ∧ gb < wr.heap.size := RK.out.lt gb rfl
        have hown := RK.out.alloc (.cells (ca n q l x y h t m) 28)
        have hcz := (Bx.new wr n q l x y h t m).c
        go_wp2_with (at_builtin; refine wpList_append_own _ rfl _ _ 24 rfl (w.heap.size + 1) 28 i0 (.agg #[.string ⟨#[]⟩, .int .i64 0, .string ⟨#[]⟩, .int .i64 0, .int .i64 0, .int .i64 0, .int .i64 0, .int .i64 0]) 8 80 Try.underlying24 hi hz0 hz1 hz2 rfl (by decide) _ _ _ rfl (hown) ⟨wr.heap.size, 0, none⟩ 1 1 [.string n, .int .i64 q, .string l, .int .i64 x, .int .i64 y, .int .i64 h, .int .i64 t, .int .i64 m] rfl rfl ((by intro j u hj; match j, hj with | 0, hj => (simp at hj; subst hj; simp [Addr.add]) | 1, hj => (simp at hj; subst hj; simp [Addr.add]) | 2, hj => (simp at hj; subst hj; simp [Addr.add]) | 3, hj => (simp at hj; subst hj; simp [Addr.add]) | 4, hj => (simp at hj; subst hj; simp [Addr.add]) | 5, hj => (simp at hj; subst hj; simp [Addr.add]) | 6, hj => (simp at hj; subst hj; simp [Addr.add]) | 7, hj => (simp at hj; subst hj; simp [Addr.add]))) (by intro u hu9; simp at hu9; rcases hu9 with rfl | rfl | rfl | rfl | rfl | rfl | rfl | rfl <;> rfl) (by unfold maxLen; omega) (by omega) (by simp; omega) ?_)
        intro v' w5 hown' hgrow hnil
        rw [show dls (row zs ⟨n, q, l, x, y, h, t, m⟩ q2 false) ++ [.string n, .int .i64 q, .string l, .int .i64 x, .int .i64 y, .int .i64 h, .int .i64 t, .int .i64 m] = dls (insD zs ⟨n, q, l, x, y, h, t, m⟩) from (dls_snoc _ ⟨n, q, l, x, y, h, t, m⟩).trans (by rw [EN.out, HN.out]; rfl)] at hown'
        obtain ⟨g5, cq5, rfl⟩ := own_mk hown'
        have R6 := Lib.hid hown'
        have B6 := Lib.hid ((BK.out.alloc (by have := HS0.out; omega) (.cells (ca n q l x y h t m) 28)).grown hgrow (by have := HS0.out; simp; omega) (fun j hj => by cases hj; exact hgb.1))
        have LL := Lib.hid (show (insD zs ⟨n, q, l, x, y, h, t, m⟩).length = q2 + 1 by rw [ins_len, HN.out])
        clear hown' hgrow hnil hown hcz y0 y1 y2z y3 y4 y5 y6 y7
        go_wp2_with fail
        go_returns
        rw [adL_yes HGT.out, HGT.out]
        exact ⟨g5, cq5, by rw [LL.out]; first | done | rfl, by rw [LL.out]; exact owns_base R6.out (Nat.le_trans (Nat.le_succ _) (R6.out.lt g5 rfl).1), BW.out.trans (B6.out.mono (Nat.le_succ _))⟩
      · obtain rfl : q2 = k + 1 := QK.out
        have LL := Lib.hid (show (insD zs ⟨n, q, l, x, y, h, t, m⟩).length = k + 1 by rw [ins_len, HN.out])
        have R6 := Lib.hid (show wr.ownsRow (w.heap.size + 1) 28 8 (.slice (some ⟨gb, 0, none⟩) (k + 1) gc) (k + 1) (dls (insD zs ⟨n, q, l, x, y, h, t, m⟩)) by have := RK.out; rw [EN.out, HN.out]; exact this)
        go_wp2_with fail
        go_returns
        rw [adL_yes HGT.out, HGT.out]
        exact ⟨gb, gc, by rw [LL.out]; first | done | rfl, by rw [LL.out]; exact owns_base R6.out (Nat.le_trans (Nat.le_succ _) (R6.out.lt gb rfl).1), BW.out.trans (BK.out.mono (Nat.le_succ _))⟩

end Go.Proofs.Ytgcheplneolonab.Ad
