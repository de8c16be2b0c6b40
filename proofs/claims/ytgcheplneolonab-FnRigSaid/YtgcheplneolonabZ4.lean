/- A device put in where it belongs: the list with it behind, put in order by names. -/
import Derived.Test.YtgcheplneolonabZ2
import Derived.Sort.Statements
import Derived.Test.YtgcheplneolonabKs
import Derived.Test.YtgcheplneolonabShelf
namespace Go.Proofs.Ytgcheplneolonab.Ms6
open Go.RowKit Go.ChangeShapes Go.WideShapes Go.WideElems Go.Deep Go.Proofs.Ytgcheplneolonab.Mem Go.Proofs.Ytgcheplneolonab.Rw Go.Proofs.Ytgcheplneolonab.Pw Go.Proofs.Ytgcheplneolonab.P2 Go.Proofs.Ytgcheplneolonab.Dd Go.Proofs.Ytgcheplneolonab.Dv Go.Proofs.Ytgcheplneolonab.Dl Go.Proofs.Ytgcheplneolonab.Ds Go.Proofs.Ytgcheplneolonab.Fd Go.Proofs.Ytgcheplneolonab.Ch Go.Proofs.Ytgcheplneolonab.Hn Go.Proofs.Ytgcheplneolonab.Po
set_option linter.unusedVariables false
set_option linter.unusedSimpArgs false
open Go.Proofs.Ytgcheplneolonab.Ho Go.Proofs.Ytgcheplneolonab.Ig Go.Proofs.Ytgcheplneolonab.Rz Go.Proofs.Ytgcheplneolonab.Adn

def cmpN (a d : D) : Int := Ig.cn a.nm d.nm
def ltN (a d : D) : Bool := decide (cmpN a d < 0)
theorem ltN_iff {a d : D} : ltN a d = true ↔ Ig.lt a.nm d.nm = true := by
  unfold ltN cmpN cn
  rw [decide_eq_true_iff]
  cases h : Ig.lt a.nm d.nm
  · by_cases c : sb a.nm d.nm = true
    · rw [if_neg (by decide), if_pos c]; decide
    · rw [if_neg (by decide), if_neg c]; decide
  · rw [if_pos rfl]; decide
theorem lt_asymm {a b : ByteArray} (h : Ig.lt a b = true) (k : Ig.lt b a = true) : False := by
  have := lt_trans h k
  rw [lt_irrefl] at this; cases this
theorem ord_eq {xs ys : List D} (h : Ord xs) (k : Ord ys) (p : xs.Perm ys) : xs = ys :=
  List.Perm.eq_of_pairwise (fun a b _ _ h1 h2 => (lt_asymm h1 h2).elim) h k p
theorem ins_perm : ∀ (zs : List D) (d : D), (insD zs d).Perm (d :: zs)
  | [], d => List.Perm.refl _
  | x :: r, d => by
    rw [insD]; split
    · exact List.Perm.refl _
    · exact ((ins_perm r d).cons x).trans (List.Perm.swap d x r)
def Un (a d : D) : Prop := a.nm.toList ≠ d.nm.toList
theorem ord_un {zs : List D} (h : Ord zs) : zs.Pairwise Un := List.Pairwise.imp (fun h => lt_ne h) h
theorem un_perm {xs ys : List D} (h : xs.Perm ys) : xs.Pairwise Un ↔ ys.Pairwise Un := h.pairwise_iff (fun h => fun e => h e.symm)
theorem ord_sorted {ys : List D} (h : ys.Pairwise fun a b => ltN b a = false) (u : ys.Pairwise Un) : Ord ys := by
  refine List.Pairwise.imp₂ (fun a b h1 h2 => ?_) h u
  have n : Ig.lt b.nm a.nm = false := by
    cases c : Ig.lt b.nm a.nm
    · rfl
    · rw [ltN_iff.2 c] at h1; cases h1
  exact lt_other n (fun e => h2 e.symm)
theorem swoN : Go.Sort.SWO ltN where
  irrefl x := by
    cases h : ltN x x
    · rfl
    · have := ltN_iff.1 h; rw [lt_irrefl] at this; cases this
  trans x y z h1 h2 := ltN_iff.2 (lt_trans (ltN_iff.1 h1) (ltN_iff.1 h2))
  ntrans x y z h1 h2 := by
    have f : ∀ {a b : D}, ltN a b = false → Ig.lt a.nm b.nm = false := fun {a b} h => by
      cases c : Ig.lt a.nm b.nm
      · rfl
      · rw [ltN_iff.2 c] at h; cases h
    cases h : ltN x z
    · rfl
    · exfalso
      have hz := ltN_iff.1 h
      have n1 := f h1
      have n2 := f h2
      by_cases e : x.nm.toList = y.nm.toList
      · have : Ig.lt y.nm z.nm = true := by
          have := Rz.lt_iff.1 hz
          rw [e] at this
          exact Rz.lt_iff.2 this
        rw [this] at n2; cases n2
      · have := lt_trans (lt_other n1 e) hz
        rw [this] at n2; cases n2
theorem names_apart {zs : List D} {d : D} (h : (zs ++ [d]).Pairwise Un) : ∀ e ∈ zs, sb e.nm d.nm = false := fun e he => by
  have h9 : e.nm.toList ≠ d.nm.toList := (List.pairwise_append.1 h).2.2 e he d (List.mem_singleton_self d)
  unfold sb
  simpa using h9
theorem apart_names {zs : List D} {d : D} (ho : Ord zs) (h : ∀ e ∈ zs, sb e.nm d.nm = false) : (zs ++ [d]).Pairwise Un :=
  List.pairwise_append.2 ⟨ord_un ho, List.pairwise_singleton _ _, fun a ha b hb => by
    rw [List.mem_singleton.1 hb]
    have := h a ha
    unfold sb at this
    intro e; rw [e] at this; simp at this⟩
/-- The list put in order is a rig just if the device may be put in, and is then the list with it. -/
theorem sorted_same {zs ys : List D} {d : D} (hz : Rig zs) (hp : ys.Perm (zs ++ [d])) (hs : ys.Pairwise fun a b => ltN b a = false) : rig ys = adG zs d ∧ (adG zs d = true → ys = insD zs d) := by
  obtain ⟨z1, z2, z3⟩ := rig_set.1 hz
  have hl : ys.length = zs.length + 1 := by rw [hp.length_eq, List.length_append]; rfl
  have key : adG zs d = true → ys = insD zs d := fun h => by
    have h2 := h
    unfold adG at h2
    rw [Bool.and_eq_true, Bool.and_eq_true, Bool.and_eq_true, Bool.and_eq_true] at h2
    have hn := fd_none.1 (of_decide_eq_true h2.2.2.1)
    have hr : Rig (insD zs d) := by have := ad_rig (d := d) hz; rw [adL_yes h] at this; exact this
    exact ord_eq (ord_sorted hs ((un_perm hp).2 (apart_names z2 hn))) (rig_set.1 hr).2.1 (hp.trans ((List.perm_append_comm (l₁ := zs) (l₂ := [d])).trans (ins_perm zs d).symm))
  refine ⟨?_, key⟩
  cases h : adG zs d
  · refine rig_no fun hR => ?_
    obtain ⟨y1, y2, y3⟩ := rig_set.1 hR
    have hd : d ∈ ys := hp.mem_iff.2 (List.mem_append_right _ (List.mem_singleton_self d))
    obtain ⟨d1, d2, d3⟩ := y3 d hd
    have hn := names_apart ((un_perm hp).1 (ord_un y2))
    have hh : hgV zs d.kd d.ln = true := by
      by_cases k2 : d.kd = 2
      · obtain ⟨e, he, hs1, hk⟩ := d2 k2
        rw [k2, hgV_2]
        refine (kAt_iff z2 _ _).2 ⟨e, ?_, hs1, hk⟩
        rcases List.mem_append.1 (hp.mem_iff.1 he) with h | h
        · exact h
        · rw [List.mem_singleton.1 h, k2] at hk; cases hk
      · by_cases k3 : d.kd = 3
        · obtain ⟨e, he, hs1, hk⟩ := d3 k3
          rw [k3, hgV_3]
          refine (kAt_iff z2 _ _).2 ⟨e, ?_, hs1, hk⟩
          rcases List.mem_append.1 (hp.mem_iff.1 he) with h | h
          · exact h
          · rw [List.mem_singleton.1 h, k3] at hk; cases hk
        · exact hgV_o k2 k3 _ _
    have : adG zs d = true := by
      unfold adG
      rw [rig_yes hz, d1, hh, decide_eq_true (fd_none.2 hn), decide_eq_true (show zs.length ≠ 8 by omega)]; rfl
    rw [h] at this; cases this
  · have hr : Rig (insD zs d) := by have := ad_rig (d := d) hz; rw [adL_yes h] at this; exact this
    rw [key h]; exact rig_yes hr
end Go.Proofs.Ytgcheplneolonab.Ms6
namespace Go.Proofs.Ytgcheplneolonab.So6
open Go.RowKit Go.ChangeShapes Go.WideShapes Go.WideElems Go.Deep Go.Proofs.Ytgcheplneolonab.Mem Go.Proofs.Ytgcheplneolonab.Rw Go.Proofs.Ytgcheplneolonab.Pw Go.Proofs.Ytgcheplneolonab.P2 Go.Proofs.Ytgcheplneolonab.Dd Go.Proofs.Ytgcheplneolonab.Dv Go.Proofs.Ytgcheplneolonab.Dl Go.Proofs.Ytgcheplneolonab.Ds
set_option linter.unusedVariables false
set_option linter.unusedSimpArgs false
open Go.Proofs.Ytgcheplneolonab.Ig Go.Proofs.Ytgcheplneolonab.Ms6

/-- Some draws and some blocks on. -/
def Grw (w w' : World) : Prop := ∃ q os, w' = Go.Sort.grow (w.drewN q) os
theorem Grw.refl (w : World) : Grw w w := ⟨0, #[], by rw [Go.Sort.grow_empty]; rfl⟩
theorem Grw.alloc {w w' : World} (h : Grw w w') (o : Obj) : Grw w (w'.alloc o) := by
  obtain ⟨q, os, rfl⟩ := h
  exact ⟨q, os ++ #[o], by rw [Go.Sort.alloc_eq_grow, Go.Sort.grow_grow]⟩

set_option maxHeartbeats 2000000 in
theorem compareW (n : ByteArray) (k : Int) (l : ByteArray) (x y h t m : Int) (n' : ByteArray) (k' : Int) (l' : ByteArray) (x' y' h' t' m' : Int) (w : World) :
    Calls Try.prog 26 #[va n k l x y h t m, va n' k' l' x' y' h' t' m'] w fun e w' => e = .returned (.int .i64 (cn n n')) ∧ Grw w w' := by
  go_enter Try.func26, Try.ntmps26
  go_wp2_with fail
  refine (compareS _ _ _).mono ?_
  rintro e w' ⟨rfl, rfl⟩
  go_wp2_with fail
  go_returns
  exact ⟨rfl, by repeat (first | with_reducible exact Grw.refl _ | with_reducible refine Grw.alloc ?_ _)⟩

theorem sortD (base g n c : Nat) (zs : List D) (w : World) (hn : zs.length = n) (hb : n ≤ 2097152) (h : w.ownsRow base 28 8 (.slice (some ⟨g, 0, none⟩) n c) n (dls zs)) :
    Calls Try.prog 25 #[.slice (some ⟨g, 0, none⟩) n c, .func (.func 26) #[] #[]] w (Ks.Sorted ltN dc 8 base 28 g n c zs w) := by
  have eg : ∀ args w, (callFunc 26 args).run Try.prog w = .ok (.enter 26 args) w := enters_of Try.func26 (by kernel_rfl) rfl
  obtain ⟨hH, hl⟩ := Ks.holds_own dc_len h hn
  have hcmp : CmpLays Try.prog 26 #[] dc 8 cmpN g 0 zs.toArray.size w := fun m os dk hs x y => compareW x.nm x.kd x.ln x.x x.y x.hd x.tl x.ms y.nm y.kd y.ln y.x y.y y.hd y.tl y.ms _
  have hcon := AnyQ.slices_SortFunc Try.sortC 8 Try.isAgg28 Try.sizeOf28 dc dc_len (fun x v hv => by simp [dc, cl] at hv; rcases hv with rfl | rfl | rfl | rfl | rfl | rfl | rfl | rfl <;> rfl) cmpN swoN 26 #[] g 0 c zs.toArray w eg hcmp hH hl (by simp; omega)
  have hsz : zs.toArray.size = n := by simpa using hn
  have hcon2 := hcon.mono fun e w' hh => Ks.sorted_of dc_len h hn hh
  rw [hsz] at hcon2
  exact hcon2
end Go.Proofs.Ytgcheplneolonab.So6
