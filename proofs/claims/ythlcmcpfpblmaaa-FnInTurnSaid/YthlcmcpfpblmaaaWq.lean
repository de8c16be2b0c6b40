/- The sum of demands, of the program (by a function that it makes) and of the model. -/
import Derived.Test.YthlcmcpfpblmaaaWp
import Derived.Test.YthlcmcpfpblmaaaIm
namespace Go.Proofs.Ythlcmcpfpblmaaa.Wq
open Go.RowKit Go.Proofs.Ythlcmcpfpblmaaa.Mem Go.Proofs.Ythlcmcpfpblmaaa.Dm Go.Proofs.Ythlcmcpfpblmaaa.Ws Go.Proofs.Ythlcmcpfpblmaaa.Wp
set_option linter.unusedVariables false
set_option linter.unusedSimpArgs false

/-- What the function that the program makes answers: the sum of what is cut at a level. -/
def Summed (x : Int) (w : World) (e : Ending) (w' : World) : Prop := e = .returned (.int .i64 x) ∧ w = w'

set_option maxHeartbeats 1000000 in
theorem closure (A : Option Addr) (n c : Nat) (zs : List Int) (l : Int) (B p : Nat) (w : World) (hn : zs.length = n) (hb : zs.length ≤ 8) (hd : okD zs) (hl : 0 ≤ l) (hr : Rd w B A (ints zs)) (hp : w.cell? ⟨p, 0, none⟩ = some (.slice A n c)) :
    Calls Try.prog 60 #[.int .i64 l, .pointer (some ⟨p, 0, none⟩)] w (Summed (tot (cut zs l)) w) := by
  have HR := Lib.hid hr
  have HN := Lib.hid hn
  have HT := Lib.hid (tot_take_small (zs := cut zs l) (by rw [cut_len]; exact hb) (cut_ok hd hl))
  have HD := Lib.hid hd
  have hb8 : n ≤ 8 := by omega
  clear hr hn hd hb
  go_enter Try.func60, Try.ntmps60
  go_wp2_with fail
  go_loop [4, 9] (fun t i => ∃ k : Nat, k ≤ n ∧ i = .int .i64 k ∧ ∃ x : Int, t = .int .i64 x ∧ Hid (x = tot ((cut zs l).take k))) (fun _ i => n - (intOf i).toNat)
  case atStart => exact ⟨0, Nat.zero_le _, rfl, 0, rfl, Lib.hid rfl⟩
  case round =>
    obtain ⟨k, hk, rfl, x, rfl, HX⟩ := hrel
    obtain ⟨hx1, hx2⟩ : 0 ≤ x ∧ x ≤ 512 := by have := HT.out k; rw [← HX.out] at this; exact this
    by_cases hlt : k < n
    · obtain ⟨z, hz⟩ : ∃ z, zs[k]? = some z := ⟨_, List.getElem?_eq_getElem (by rw [HN.out]; exact hlt)⟩
      obtain ⟨b1, o1, eA, hb1, c1⟩ := rd_cell HR.out hz
      have hz3 := HD.out z (List.mem_of_getElem? hz)
      obtain ⟨hz4, hz5⟩ := hz3
      have K := Lib.hid (show x + (if l < z then l else z) = tot ((cut zs l).take (k + 1)) by rw [cut_tot_take hz, ← HX.out, min_if])
      have b3 : 0 ≤ (if l < z then l else z) := by split <;> omega
      have b4 : (if l < z then l else z) ≤ 64 := by split <;> omega
      clear hz hb1
      subst eA
      go_wp2_with fail
      go_round
      case rel => exact ⟨k + 1, by omega, by go_num, _, rfl, K⟩
      case measure => simp [intOf]; omega
    · obtain rfl : k = n := by omega
      have F := Lib.hid (show x = tot (cut zs l) by rw [HX.out, show k = (cut zs l).length by rw [cut_len, HN.out], List.take_length])
      go_wp2_with fail
      go_ret
      exact ⟨ret_int F.out, rfl⟩


theorem alloc1 (w : World) (o : Obj) : Below w.heap.size w (w.alloc o) := (Below.refl _ _).alloc (Nat.le_refl _) _
theorem box_cell (w : World) (v : Value) (T : TypeId) : (w.alloc (.cells #[v] T)).cell? ⟨w.heap.size, 0, none⟩ = some v := by rw [cell_of_row (w.alloc (.cells #[v] T)) w.heap.size 0 _ _ _ (heap_alloc_new w _)]; rfl

/-- What the function that makes it leaves: a block with the list. -/
def Made (v : Value) (w : World) (e : Ending) (w' : World) : Prop := e = .returned (.func (.func 60) #[] #[.pointer (some ⟨w.heap.size, 0, none⟩)]) ∧ w' = w.alloc (.cells #[v] 22)
theorem totalsOf (A : Option Addr) (n c : Nat) (w : World) :
    Calls Try.prog 44 #[.slice A n c] w (Made (.slice A n c) w) := by
  have hmf : ∀ (fn : Fn) (first cap : Array Value) (w : World), (Instr.makeFunc fn first cap).run Try.prog w = .ok (.func fn first cap) w := fun _ _ _ _ => rfl
  go_enter Try.func44, Try.ntmps44
  go_wp2_with fail
  go_ret
  exact ⟨rfl, rfl⟩

/-- A number, and no old memory written. -/
def Num (x : Int) (w : World) (e : Ending) (w' : World) : Prop := e = .returned (.int .i64 x) ∧ Below w.heap.size w w'

set_option maxHeartbeats 1000000 in
theorem totS (A : Option Addr) (n c : Nat) (zs : List Int) (B : Nat) (w : World) (hn : zs.length = n) (hb : n ≤ 1048576) (hr : Rd w B A (ints zs)) :
    Calls Try.prog 19 #[.slice A n c] w (Summed (totB zs) w) := by
  have R := Lib.hid hr
  have N := Lib.hid hn
  by_cases hd : dm zs = true
  · have C := Lib.hid (demS_of hd A n c B w N.out hb R.out)
    have S := Lib.hid (sumS A n c zs B w N.out (dm_iff.1 hd).1 (dm_iff.1 hd).2 R.out)
    have F := Lib.hid (totB_yes hd)
    clear hr hn hd
    go_enter Try.func19, Try.ntmps19
    go_wp2_with fail
    refine C.out.mono ?_
    rintro e w' ⟨rfl, rfl⟩
    go_wp2_with fail
    refine S.out.mono ?_
    rintro e w' ⟨rfl, rfl⟩
    go_wp2_with fail
    go_ret
    exact ⟨ret_int F.out.symm, rfl⟩
  · have hd2 : dm zs = false := by simpa using hd
    have C := Lib.hid (demS_of hd2 A n c B w N.out hb R.out)
    have F := Lib.hid (totB_no hd2)
    clear hr hn hd hd2
    go_enter Try.func19, Try.ntmps19
    go_wp2_with fail
    refine C.out.mono ?_
    rintro e w' ⟨rfl, rfl⟩
    go_wp2_with fail
    go_ret
    exact ⟨ret_int F.out.symm, rfl⟩

set_option maxHeartbeats 1000000 in
theorem totI (A : Option Addr) (n c : Nat) (zs : List Int) (w : World) (hn : zs.length = n) (hb : n ≤ 1048576) (hr : Rd w w.heap.size A (ints zs)) :
    Calls Try.prog 20 #[.slice A n c] w (Num (totB zs) w) := by
  have R := Lib.hid hr
  have N := Lib.hid hn
  by_cases hd : dm zs = true
  · have C := Lib.hid (demI_of hd A n c w.heap.size w N.out hb R.out)
    have S := Lib.hid (closure A n c zs 64 w.heap.size w.heap.size (w.alloc (.cells #[.slice A n c] 22)) N.out (dm_iff.1 hd).1 (dm_iff.1 hd).2 (by decide) (R.out.below (alloc1 w _)) (box_cell w _ _))
    have F := Lib.hid (show tot (cut zs 64) = totB zs by rw [totB_yes hd, cut_all (fun z hz => ((dm_iff.1 hd).2 z hz).2)])
    clear hr hn hd
    go_enter Try.func20, Try.ntmps20
    go_wp2_with fail
    refine C.out.mono ?_
    rintro e w' ⟨rfl, rfl⟩
    go_wp2_with fail
    refine (totalsOf A n c _).mono ?_
    rintro e w' ⟨rfl, rfl⟩
    go_wp2_with fail
    refine S.out.mono ?_
    rintro e w' ⟨rfl, rfl⟩
    go_wp2_with fail
    go_ret
    exact ⟨ret_int F.out, alloc1 _ _⟩
  · have hd2 : dm zs = false := by simpa using hd
    have C := Lib.hid (demI_of hd2 A n c w.heap.size w N.out hb R.out)
    have F := Lib.hid (totB_no hd2)
    clear hr hn hd hd2
    go_enter Try.func20, Try.ntmps20
    go_wp2_with fail
    refine C.out.mono ?_
    rintro e w' ⟨rfl, rfl⟩
    go_wp2_with fail
    go_ret
    exact ⟨ret_int F.out.symm, Below.refl _ _⟩

end Go.Proofs.Ythlcmcpfpblmaaa.Wq
