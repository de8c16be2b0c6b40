/- The library's sort at cues that a call made. -/
import Derived.Test.YtgcheplneolonacKs
import Derived.Test.YtgcheplneolonacMg
import Derived.Test.YtgcheplneolonacShelf
import Derived.Deep.RegionHeld3
namespace Go.Proofs.Ytgcheplneolonac.So7
open Go.RowKit Go.ChangeShapes Go.WideShapes Go.WideElems Go.Deep Go.Proofs.Ytgcheplneolonac.Mem Go.Proofs.Ytgcheplneolonac.Rw Go.Proofs.Ytgcheplneolonac.P2 Go.Proofs.Ytgcheplneolonac.Cd Go.Proofs.Ytgcheplneolonac.Cv Go.Proofs.Ytgcheplneolonac.Cl Go.Proofs.Ytgcheplneolonac.Cs
set_option linter.unusedVariables false
set_option linter.unusedSimpArgs false
open Go.Proofs.Ytgcheplneolonac.Sd Go.Proofs.Ytgcheplneolonac.Mg

/-- Some draws and some blocks on. -/
def Grw (w w' : World) : Prop := ∃ q os, w' = Go.Sort.grow (w.drewN q) os
theorem Grw.refl (w : World) : Grw w w := ⟨0, #[], by rw [Go.Sort.grow_empty]; rfl⟩
theorem Grw.alloc {w w' : World} (h : Grw w w') (o : Obj) : Grw w (w'.alloc o) := by
  obtain ⟨q, os, rfl⟩ := h
  exact ⟨q, os ++ #[o], by rw [Go.Sort.alloc_eq_grow, Go.Sort.grow_grow]⟩
theorem Grw.drew {w w' : World} (h : Grw w w') : Grw w w'.drew := by
  obtain ⟨q, os, rfl⟩ := h
  exact ⟨q + 1, os, rfl⟩
theorem Grw.drewN {w w' : World} (h : Grw w w') (n : Nat) : Grw w (w'.drewN n) := by
  obtain ⟨q, os, rfl⟩ := h
  exact ⟨q + n, os, by rw [← World.drewN_drewN]; rfl⟩

set_option maxHeartbeats 4000000 in
theorem compareW (t : Int) (n : ByteArray) (l r : Int) (t' : Int) (n' : ByteArray) (l' r' : Int) (w : World) :
    Calls Try.prog 21 #[va t n l r, va t' n' l' r'] w fun e w' => e = .returned (.int .i64 (cc t n t' n')) ∧ Grw w w' := by
  rw [← cc_or]
  have C1 := Lib.hid (cmpI t t')
  have C2 := Lib.hid (cmpS n n')
  generalize ci t t' = x at *
  generalize cn n n' = y at *
  obtain ⟨v, hv⟩ : ∃ v, (if x = 0 then y else x) = v := ⟨_, rfl⟩
  rw [hv]
  have C3 := Lib.hid (fun b W h0 h1 => hv ▸ orI b x y W h0 h1)
  clear hv
  go_enter Try.func21, Try.ntmps21
  go_wp2_with fail
  go_region_held3 (fun w' => w'.cell? ⟨w.heap.size, 0, none⟩ = some (.int .i64 t) ∧ w'.cell? ⟨w.heap.size, 1, none⟩ = some (.string n) ∧ w'.cell? ⟨w.heap.size + 1, 0, none⟩ = some (.int .i64 t') ∧ w'.cell? ⟨w.heap.size + 1, 1, none⟩ = some (.string n')) (simp [go_sem, *])
    (first | (go_at_call 37; ((with_reducible refine (C1.out _).mono ?_); rintro e w' ⟨rfl, rfl⟩)) | (go_at_call 38; ((with_reducible refine (C2.out _).mono ?_); rintro e w' ⟨rfl, rfl⟩)) | (go_at_call 36; ((with_reducible refine (C3.out _ _ (by simp [go_sem]) (by simp [go_sem])).mono ?_); rintro e w' ⟨rfl, rfl⟩)))
  all_goals go_wp2_with fail
  all_goals go_returns
  all_goals exact ⟨rfl, by repeat (first | with_reducible exact Grw.refl _ | with_reducible refine Grw.alloc ?_ _ | with_reducible refine Grw.drew ?_ | with_reducible refine Grw.drewN ?_ _)⟩

theorem sortC (base g n c : Nat) (zs : List C) (w : World) (hn : zs.length = n) (hb : n ≤ 2097152) (h : w.ownsRow base 26 4 (.slice (some ⟨g, 0, none⟩) n c) n (dls zs)) :
    Calls Try.prog 28 #[.slice (some ⟨g, 0, none⟩) n c, .func (.func 21) #[] #[]] w (Ks.Sorted ltOfB dc 4 base 26 g n c zs w) := by
  have eg : ∀ args w, (callFunc 21 args).run Try.prog w = .ok (.enter 21 args) w := enters_of Try.func21 (by kernel_rfl) rfl
  obtain ⟨hH, hl⟩ := Ks.holds_own dc_len h hn
  have hcmp : CmpLays Try.prog 21 #[] dc 4 cmp2 g 0 zs.toArray.size w := fun m os dk hs x y => compareW x.tk x.nm x.lv x.rp y.tk y.nm y.lv y.rp _
  have hcon := AnyQ.slices_SortFunc Try.sortC 4 Try.isAgg26 Try.sizeOf26 dc dc_len (fun x v hv => by simp [dc, cl] at hv; rcases hv with rfl | rfl | rfl | rfl <;> rfl) cmp2 swoC 21 #[] g 0 c zs.toArray w eg hcmp hH hl (by simp; omega)
  have hsz : zs.toArray.size = n := by simpa using hn
  have hcon2 := hcon.mono fun e w' hh => Ks.sorted_of dc_len h hn hh
  rw [hsz] at hcon2
  exact hcon2
end Go.Proofs.Ytgcheplneolonac.So7
