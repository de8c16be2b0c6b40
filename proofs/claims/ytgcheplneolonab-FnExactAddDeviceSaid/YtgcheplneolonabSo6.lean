/- The library's sort at devices that a call made. -/
import Derived.Test.YtgcheplneolonabKs
import Derived.Test.YtgcheplneolonabMs6
import Derived.Test.YtgcheplneolonabShelf
namespace Go.Proofs.Ytgcheplneolonab.So6
open Go.RowKit Go.ChangeShapes Go.WideShapes Go.WideElems Go.Deep Go.Proofs.Ytgcheplneolonab.Mem Go.Proofs.Ytgcheplneolonab.Rw Go.Proofs.Ytgcheplneolonab.Pw Go.Proofs.Ytgcheplneolonab.P2 Go.Proofs.Ytgcheplneolonab.Dd Go.Proofs.Ytgcheplneolonab.Dv Go.Proofs.Ytgcheplneolonab.Dl Go.Proofs.Ytgcheplneolonab.Ds
set_option linter.unusedVariables false
set_option linter.unusedSimpArgs false
open Go.Proofs.Ytgcheplneolonab.Ig Go.Proofs.Ytgcheplneolonab.Ms6

/-- Some draws and some blocks on. -/
def Grw (w w' : World) : Prop := ∃ q os, w' = Go.Sort.grow (w.drewN q) os
theorem Grw.refl (w : World) : Grw w w := ⟨0, #[], by rw [Go.Sort.grow_empty]; rfl⟩
theorem Grw.alloc {w w' : World} (h : Grw w w') (o : Obj) : Grw w (w'.alloc o) := by
  obtain ⟨q, os, rfl⟩ := h
  exact ⟨q, os ++ #[o], by rw [Go.Sort.alloc_eq_grow, Go.Sort.grow_grow]⟩

set_option maxHeartbeats 2000000 in
theorem compareW (n : ByteArray) (k : Int) (l : ByteArray) (x y h t m : Int) (n' : ByteArray) (k' : Int) (l' : ByteArray) (x' y' h' t' m' : Int) (w : World) :
    Calls Try.prog 26 #[va n k l x y h t m, va n' k' l' x' y' h' t' m'] w fun e w' => e = .returned (.int .i64 (cn n n')) ∧ Grw w w' := by
  go_enter Try.func26, Try.ntmps26
  go_wp2_with fail
  refine (compareS _ _ _).mono ?_
  rintro e w' ⟨rfl, rfl⟩
  go_wp2_with fail
  go_returns
  exact ⟨rfl, by repeat (first | with_reducible exact Grw.refl _ | with_reducible refine Grw.alloc ?_ _)⟩

theorem sortD (base g n c : Nat) (zs : List D) (w : World) (hn : zs.length = n) (hb : n ≤ 2097152) (h : w.ownsRow base 28 8 (.slice (some ⟨g, 0, none⟩) n c) n (dls zs)) :
    Calls Try.prog 25 #[.slice (some ⟨g, 0, none⟩) n c, .func (.func 26) #[] #[]] w (Ks.Sorted ltN dc 8 base 28 g n c zs w) := by
  have eg : ∀ args w, (callFunc 26 args).run Try.prog w = .ok (.enter 26 args) w := enters_of Try.func26 (by kernel_rfl) rfl
  obtain ⟨hH, hl⟩ := Ks.holds_own dc_len h hn
  have hcmp : CmpLays Try.prog 26 #[] dc 8 cmpN g 0 zs.toArray.size w := fun m os dk hs x y => compareW x.nm x.kd x.ln x.x x.y x.hd x.tl x.ms y.nm y.kd y.ln y.x y.y y.hd y.tl y.ms _
  have hcon := AnyQ.slices_SortFunc Try.sortC 8 Try.isAgg28 Try.sizeOf28 dc dc_len (fun x v hv => by simp [dc, cl] at hv; rcases hv with rfl | rfl | rfl | rfl | rfl | rfl | rfl | rfl <;> rfl) cmpN swoN 26 #[] g 0 c zs.toArray w eg hcmp hH hl (by simp; omega)
  have hsz : zs.toArray.size = n := by simpa using hn
  have hcon2 := hcon.mono fun e w' hh => Ks.sorted_of dc_len h hn hh
  rw [hsz] at hcon2
  exact hcon2
end Go.Proofs.Ytgcheplneolonab.So6
