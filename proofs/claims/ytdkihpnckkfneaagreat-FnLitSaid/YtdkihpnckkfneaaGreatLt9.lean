/- Which lamps are lit, in numbers. -/
import Derived.Test.YtdkihpnckkfneaaGreatM21
import Derived.Test.YtdkihpnckkfneaaGreatM4
namespace Go.Proofs.YtdkihpnckkfneaaGreat.Lt9
open Go.RowKit Go.ChangeShapes Go.WideShapes Go.WideElems Go.Deep Go.Proofs.YtdkihpnckkfneaaGreat.Mem Go.Proofs.YtdkihpnckkfneaaGreat.Rw Go.Proofs.YtdkihpnckkfneaaGreat.P2 Go.Proofs.YtdkihpnckkfneaaGreat.Bk Go.Proofs.YtdkihpnckkfneaaGreat.Sp Go.Proofs.YtdkihpnckkfneaaGreat.Sq Go.Proofs.YtdkihpnckkfneaaGreat.Jt
open Go.Proofs.YtdkihpnckkfneaaGreat.Sv hiding D C G
open Go.Proofs.YtdkihpnckkfneaaGreat.Ds (sb)
open Go.Proofs.YtdkihpnckkfneaaGreat.Ig (rig)
open Go.Proofs.YtdkihpnckkfneaaGreat.Fd (fd fdN fd_cases)
open Go.Proofs.YtdkihpnckkfneaaGreat.Wp (RowI rd_cell)
set_option linter.unusedVariables false
set_option linter.unusedSimpArgs false
open Go.Proofs.YtdkihpnckkfneaaGreat.La9 Go.Proofs.YtdkihpnckkfneaaGreat.Ja9
/-- Whether what a device hangs on throws. -/
noncomputable def litB (ds : List D) (cs : List C) (gs : List G) (T t : Int) (d : D) : Bool := (jaV ds cs gs T d.ln t).isSome
noncomputable def litV (ds : List D) (cs : List C) (gs : List G) (T t : Int) (l : List D) : List ByteArray := (l.filter (litB ds cs gs T t)).map (fun d => d.nm)
theorem lit_yes {ds : List D} {cs : List C} {gs : List G} {T t : Int} {k : Nat} {d : D} (hd : ds[k]? = some d) (h : litB ds cs gs T t d = true) : litV ds cs gs T t (ds.take (k + 1)) = litV ds cs gs T t (ds.take k) ++ [d.nm] := by
  obtain ⟨hk, rfl⟩ := List.getElem?_eq_some_iff.1 hd
  unfold litV; rw [List.take_succ_eq_append_getElem hk, List.filter_append]; simp [h]
theorem lit_no {ds : List D} {cs : List C} {gs : List G} {T t : Int} {k : Nat} {d : D} (hd : ds[k]? = some d) (h : litB ds cs gs T t d = false) : litV ds cs gs T t (ds.take (k + 1)) = litV ds cs gs T t (ds.take k) := by
  obtain ⟨hk, rfl⟩ := List.getElem?_eq_some_iff.1 hd
  unfold litV; rw [List.take_succ_eq_append_getElem hk, List.filter_append]; simp [h]
theorem lit_len (ds : List D) (cs : List C) (gs : List G) (T t : Int) (l : List D) : (litV ds cs gs T t l).length ≤ l.length := by
  unfold litV; rw [List.length_map]; exact List.length_filter_le _ _
theorem lit_none {ds : List D} {cs : List C} {gs : List G} {T : Int} (t : Int) (h : show9 ds cs gs T = false) (l : List D) : litV ds cs gs T t l = [] := by
  have : l.filter (litB ds cs gs T t) = [] := List.filter_eq_nil_iff.2 fun d _ => by unfold litB jaV; rw [laV_no t h, jaN_nil]; decide
  unfold litV; rw [this]; rfl
/-- A lamp hangs on a nozzle; what it is lit by is that one's lift. -/
theorem lit_lamp {ds : List D} {cs : List C} {gs : List G} {T t : Int} (h : show9 ds cs gs T = true) {d : D} (hd : d ∈ ds) (hk : d.kd = 3) :
    ∃ (j : Nat) (x : Int), fd ds d.ln = (j : Int) ∧ j < ds.length ∧ (lifts ds cs T t)[j]? = some x ∧ 0 ≤ x ∧ litB ds cs gs T t d = decide (0 < x) := by
  have hr := (show_iff.1 h).1
  obtain ⟨_, _, hall⟩ := Rz.rig_set.1 (Ig.rig_of hr)
  obtain ⟨e, he, hs, _⟩ := (hall d hd).2.2 hk
  rcases fd_cases ds d.ln with f | ⟨j, f, hj, q, hq, hqs⟩
  · have := Rz.fd_none.1 (show fd ds d.ln < 0 by rw [f]; decide) e he
    rw [this] at hs; cases hs
  · obtain ⟨x, hx⟩ : ∃ x, (lifts ds cs T t)[j]? = some x := ⟨_, List.getElem?_eq_getElem (by rw [lifts_len]; exact hj)⟩
    have hx0 : 0 ≤ x := by
      rcases ok_lifts cs T t hr j x hx with e | ⟨a, _⟩ <;> omega
    refine ⟨j, x, f, hj, hx, hx0, ?_⟩
    unfold litB jaV
    rw [laV_yes t h, ja_some hr f hq hx]
    by_cases c : x = 0
    · rw [if_pos c, decide_eq_false (by omega)]; rfl
    · rw [if_neg c, decide_eq_true (by omega)]; rfl
theorem lit_other {ds : List D} {cs : List C} {gs : List G} {T t : Int} (h : show9 ds cs gs T = true) {d : D} (hd : d ∈ ds) (hk : d.kd ≠ 3) : litB ds cs gs T t d = false := by
  have hr := (show_iff.1 h).1
  unfold litB jaV
  rw [laV_yes t h]
  rcases fd_cases ds d.ln with f | ⟨j, f, hj, q, hq, hqs⟩
  · rw [ja_none (by rw [f]; decide)]; rfl
  · obtain ⟨x, hx⟩ : ∃ x, (lifts ds cs T t)[j]? = some x := ⟨_, List.getElem?_eq_getElem (by rw [lifts_len]; exact hj)⟩
    have hx0 : x = 0 := by
      rcases ok_lifts cs T t hr j x hx with e | ⟨_, _, q', hq', k2, _⟩
      · exact e
      · rw [hq] at hq'; injection hq' with hq'; subst hq'
        rcases hangs_on hr (List.mem_of_getElem? hq) hd (sb_symm hqs) with ⟨a, _⟩ | ⟨_, b⟩
        · omega
        · exact absurd b hk
    rw [ja_some hr f hq hx, if_pos hx0]; rfl
/-- A row of the call's own that holds these names. -/
def RowS (w : World) (ns : List ByteArray) (e : Ending) (w' : World) : Prop :=
  ∃ g c, e = .returned (.slice (some ⟨g, 0, none⟩) ns.length c) ∧ w'.ownsRow w.heap.size 9 1 (.slice (some ⟨g, 0, none⟩) ns.length c) ns.length (Strs.strs ns) ∧ Below w.heap.size w w'
theorem row_of {w w' : World} {l : List ByteArray} {q g c : Nat} (hq : l.length = q) (o : w'.ownsRow w.heap.size 9 1 (.slice (some ⟨g, 0, none⟩) q c) q (Strs.strs l)) (b : Below w.heap.size w w') : RowS w l (.returned (.slice (some ⟨g, 0, none⟩) q c)) w' := by
  subst hq; exact ⟨g, c, rfl, o, b⟩
theorem own_mk {w : World} {base n : Nat} {v : Value} {xs : List Value} (h : w.ownsRow base 9 1 v (n + 1) xs) : ∃ g c, v = .slice (some ⟨g, 0, none⟩) (n + 1) c := by
  rcases h.2 with ⟨_, e⟩ | ⟨g, cap, cur, e, _⟩
  · omega
  · exact ⟨g, cap, e⟩
theorem own_base {w : World} {base n : Nat} {v : Value} {xs : List Value} (h : w.ownsRow base 9 1 v n xs) : ∀ k, v.ownBlock = some k → base ≤ k := fun k e => (h.lt k e).1
theorem strs_snoc (zs : List ByteArray) (z : ByteArray) : Strs.strs zs ++ [.string z] = Strs.strs (zs ++ [z]) := by simp [Strs.strs]
theorem jvO_form (R : Option (D × Int)) : ∃ ax ay ah at9 al, jvO R = .tuple #[.agg #[.int .i64 ax, .int .i64 ay, .int .i64 ah, .int .i64 at9, .int .i64 al], .bool R.isSome] := by
  cases R with
  | none => exact ⟨0, 0, 0, 0, 0, rfl⟩
  | some p => exact ⟨p.1.x, p.1.y, p.1.hd, p.1.tl, p.2, rfl⟩
theorem ne_blk {g : Nat} {n c b : Nat} (hb : b ≠ g) : ∀ k, (Value.slice (some ⟨g, 0, none⟩) n c).ownBlock = some k → some b ≠ some k := by
  intro k hk e
  have hk : g = k := Option.some.inj hk
  have e := Option.some.inj e
  omega
theorem own_ne_own {w : World} {b1 b2 s1 s2 g1 g2 n1 n2 c1 c2 : Nat} {e1 e2 : TypeId} {xs ys : List Value} (h : w.ownsRow b1 e1 s1 (.slice (some ⟨g1, 0, none⟩) n1 c1) n1 xs) (k : w.ownsRow b2 e2 s2 (.slice (some ⟨g2, 0, none⟩) n2 c2) n2 ys) (hT : e1 ≠ e2) : g1 ≠ g2 := by
  intro hg
  subst hg
  rcases h.2 with ⟨x1, _⟩ | ⟨g', cap, cur, x1, _, x3, _⟩
  · cases x1
  · rcases k.2 with ⟨y1, _⟩ | ⟨g'', cap2, cur2, y1, _, y3, _⟩
    · cases y1
    · injection x1 with x1; injection x1 with x1; injection x1 with x1
      injection y1 with y1; injection y1 with y1; injection y1 with y1
      subst x1 y1
      rw [x3] at y3
      injection y3 with y3
      injection y3 with _ y3
      exact hT y3
end Go.Proofs.YtdkihpnckkfneaaGreat.Lt9
