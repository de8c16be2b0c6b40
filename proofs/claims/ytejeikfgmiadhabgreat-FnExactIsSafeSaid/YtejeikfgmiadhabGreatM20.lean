/- The sum of demands, of the program (by a function that it makes) and of the model. -/
import Derived.Test.YtejeikfgmiadhabGreatM19
import Derived.IntWalk
namespace Go.Proofs.YtejeikfgmiadhabGreat.Wq
open Go.RowKit Go.Proofs.YtejeikfgmiadhabGreat.Mem Go.Proofs.YtejeikfgmiadhabGreat.Dm Go.Proofs.YtejeikfgmiadhabGreat.Ws Go.Proofs.YtejeikfgmiadhabGreat.Wp
set_option linter.unusedVariables false
set_option linter.unusedSimpArgs false

/-- What the function that the program makes answers: the sum of what is cut at a level. -/
def Summed (x : Int) (w : World) (e : Ending) (w' : World) : Prop := e = .returned (.int .i64 x) ∧ w = w'

set_option maxHeartbeats 1000000 in
theorem closure (A : Option Addr) (n c : Nat) (zs : List Int) (l : Int) (B p : Nat) (w : World) (hn : zs.length = n) (hb : zs.length ≤ 8) (hd : okD zs) (hl : 0 ≤ l) (hr : Rd w B A (ints zs)) (hp : w.cell? ⟨p, 0, none⟩ = some (.slice A n c)) :
    Calls Tryz.prog 197 #[.int .i64 l, .pointer (some ⟨p, 0, none⟩)] w (Summed (tot (cut zs l)) w) := by
  have HR := Lib.hid hr
  have HN := Lib.hid hn
  have HT := Lib.hid (tot_take_small (zs := cut zs l) (by rw [cut_len]; exact hb) (cut_ok hd hl))
  have HD := Lib.hid hd
  have hb8 : n ≤ 8 := by omega
  clear hr hn hd hb
  go_enter Tryz.func197, Tryz.ntmps197
  go_wp2_with fail
  go_loop [4, 9] (fun t i => ∃ k : Nat, k ≤ n ∧ i = .int .i64 k ∧ ∃ x : Int, t = .int .i64 x ∧ Hid (x = tot ((cut zs l).take k))) (fun _ i => n - (intOf i).toNat)
  case atStart => exact ⟨0, Nat.zero_le _, rfl, 0, rfl, Lib.hid rfl⟩
  case round =>
    obtain ⟨k, hk, rfl, x, rfl, HX⟩ := hrel
    obtain ⟨hx1, hx2⟩ : 0 ≤ x ∧ x ≤ 512 := by have := HT.out k; rw [← HX.out] at this; exact this
    by_cases hlt : k < n
    · obtain ⟨z, hz⟩ : ∃ z, zs[k]? = some z := ⟨_, List.getElem?_eq_getElem (by rw [HN.out]; exact hlt)⟩
      obtain ⟨b1, o1, eA, hb1, c1⟩ := rd_cell HR.out hz
      have hz3 := HD.out z (List.mem_of_getElem? hz)
      obtain ⟨hz4, hz5⟩ := hz3
      have K := Lib.hid (show x + (if l < z then l else z) = tot ((cut zs l).take (k + 1)) by rw [cut_tot_take hz, ← HX.out, min_if])
      have b3 : 0 ≤ (if l < z then l else z) := by split <;> omega
      have b4 : (if l < z then l else z) ≤ 64 := by split <;> omega
      clear hz hb1
      subst eA
      go_wp2_with fail
      go_round
      case rel => exact ⟨k + 1, by omega, by go_num, _, rfl, K⟩
      case measure => simp [intOf]; omega
    · obtain rfl : k = n := by omega
      have F := Lib.hid (show x = tot (cut zs l) by rw [HX.out, show k = (cut zs l).length by rw [cut_len, HN.out], List.take_length])
      go_wp2_with fail
      go_ret
      exact ⟨ret_int F.out, rfl⟩


theorem alloc1 (w : World) (o : Obj) : Below w.heap.size w (w.alloc o) := (Below.refl _ _).alloc (Nat.le_refl _) _
theorem box_cell (w : World) (v : Value) (T : TypeId) : (w.alloc (.cells #[v] T)).cell? ⟨w.heap.size, 0, none⟩ = some v := by rw [cell_of_row (w.alloc (.cells #[v] T)) w.heap.size 0 _ _ _ (heap_alloc_new w _)]; rfl

/-- What the function that makes it leaves: a block with the list. -/
def Made (v : Value) (w : World) (e : Ending) (w' : World) : Prop := e = .returned (.func (.func 197) #[] #[.pointer (some ⟨w.heap.size, 0, none⟩)]) ∧ w' = w.alloc (.cells #[v] 117)
theorem totalsOf (A : Option Addr) (n c : Nat) (w : World) :
    Calls Tryz.prog 185 #[.slice A n c] w (Made (.slice A n c) w) := by
  have hmf : ∀ (fn : Fn) (first cap : Array Value) (w : World), (Instr.makeFunc fn first cap).run Tryz.prog w = .ok (.func fn first cap) w := fun _ _ _ _ => rfl
  go_enter Tryz.func185, Tryz.ntmps185
  go_wp2_with fail
  go_ret
  exact ⟨rfl, rfl⟩

/-- A number, and no old memory written. -/
def Num (x : Int) (w : World) (e : Ending) (w' : World) : Prop := e = .returned (.int .i64 x) ∧ Below w.heap.size w w'

set_option maxHeartbeats 1000000 in
theorem totI (A : Option Addr) (n c : Nat) (zs : List Int) (w : World) (hn : zs.length = n) (hb : n ≤ 1048576) (hr : Rd w w.heap.size A (ints zs)) :
    Calls Tryz.prog 168 #[.slice A n c] w (Num (totB zs) w) := by
  have R := Lib.hid hr
  have N := Lib.hid hn
  by_cases hd : dm zs = true
  · have C := Lib.hid (demI_of hd A n c w.heap.size w N.out hb R.out)
    have S := Lib.hid (closure A n c zs 64 w.heap.size w.heap.size (w.alloc (.cells #[.slice A n c] 117)) N.out (dm_iff.1 hd).1 (dm_iff.1 hd).2 (by decide) (R.out.below (alloc1 w _)) (box_cell w _ _))
    have F := Lib.hid (show tot (cut zs 64) = totB zs by rw [totB_yes hd, cut_all (fun z hz => ((dm_iff.1 hd).2 z hz).2)])
    clear hr hn hd
    go_enter Tryz.func168, Tryz.ntmps168
    go_wp2_with fail
    refine C.out.mono ?_
    rintro e w' ⟨rfl, rfl⟩
    go_wp2_with fail
    refine (totalsOf A n c _).mono ?_
    rintro e w' ⟨rfl, rfl⟩
    go_wp2_with fail
    refine S.out.mono ?_
    rintro e w' ⟨rfl, rfl⟩
    go_wp2_with fail
    go_ret
    exact ⟨ret_int F.out, alloc1 _ _⟩
  · have hd2 : dm zs = false := by simpa using hd
    have C := Lib.hid (demI_of hd2 A n c w.heap.size w N.out hb R.out)
    have F := Lib.hid (totB_no hd2)
    clear hr hn hd hd2
    go_enter Tryz.func168, Tryz.ntmps168
    go_wp2_with fail
    refine C.out.mono ?_
    rintro e w' ⟨rfl, rfl⟩
    go_wp2_with fail
    go_ret
    exact ⟨ret_int F.out.symm, Below.refl _ _⟩

end Go.Proofs.YtejeikfgmiadhabGreat.Wq
namespace Go.Proofs.YtejeikfgmiadhabGreat.Wl
open Go.RowKit Go.Proofs.YtejeikfgmiadhabGreat.Mem Go.Proofs.YtejeikfgmiadhabGreat.Dm Go.Proofs.YtejeikfgmiadhabGreat.Ws Go.Proofs.YtejeikfgmiadhabGreat.Wp Go.Proofs.YtejeikfgmiadhabGreat.Wq Go.Proofs.YtejeikfgmiadhabGreat.Rw
set_option linter.unusedVariables false
set_option linter.unusedSimpArgs false

/-- A truth, and only draws were made. -/
def Tells (b : Bool) (w : World) (e : Ending) (w' : World) : Prop := e = .returned (.bool b) ∧ ∃ m, w' = w.drewN m

/-- What stands in the two blocks of the test by halves. -/
structure Test (w : World) (A : Option Addr) (n c : Nat) (s : Int) (p q r : Nat) : Prop where
  list : w.cell? ⟨p, 0, none⟩ = some (.slice A n c)
  func : w.cell? ⟨q, 0, none⟩ = some (.func (.func 197) #[] #[.pointer (some ⟨p, 0, none⟩)])
  supply : w.cell? ⟨r, 0, none⟩ = some (.int .i64 s)

set_option maxHeartbeats 1000000 in
theorem test (A : Option Addr) (n c : Nat) (zs : List Int) (s : Int) (i : Nat) (B p q r : Nat) (w : World) (hn : zs.length = n) (hb : zs.length ≤ 8) (hd : okD zs) (hi : i ≤ 64) (hr : Rd w B A (ints zs)) (ht : Test w A n c s p q r) :
    Calls Tryz.prog 196 #[.int .i64 i, .pointer (some ⟨q, 0, none⟩), .pointer (some ⟨r, 0, none⟩)] w (Tells (decide (s < tot (cut zs ((i : Int) + 1)))) w) := by
  have C := Lib.hid (fun m => closure A n c zs ((i : Int) + 1) B p (w.drewN m) hn hb hd (by omega) (hr.drewN m) ht.list)
  generalize tot (cut zs ((i : Int) + 1)) = x at C
  have c1 := ht.func
  have c2 := ht.supply
  have e1 : IntKind.i64.wrap ((i : Int) + 1) = (i : Int) + 1 := IntWalk.i64_in _ (by omega)
  have e2 : 0 ≤ (i : Int) + 1 := by omega
  clear hn hb hd hr ht
  go_enter Tryz.func196, Tryz.ntmps196
  go_wp2_with fail
  go_quiet ((go_at_call 197; exact Calls.quiet_of_same ((C.out _).mono fun _ _ k => ⟨k.1, k.2.symm⟩)))
  clear e1 e2
  go_wp2_with fail
  go_ret
  exact ⟨rfl, _, rfl⟩

/-- A number, and only draws were made. -/
def Finds (x : Int) (w : World) (e : Ending) (w' : World) : Prop := e = .returned (.int .i64 x) ∧ ∃ m, w' = w.drewN m

theorem Test.drewN {w : World} {A : Option Addr} {n c : Nat} {s : Int} {p q r : Nat} (h : Test w A n c s p q r) (m : Nat) : Test (w.drewN m) A n c s p q r := ⟨h.list, h.func, h.supply⟩

set_option maxHeartbeats 1000000 in
theorem search (A : Option Addr) (n c : Nat) (zs : List Int) (s : Int) (B p q r : Nat) (w : World) (hn : zs.length = n) (hb : zs.length ≤ 8) (hd : okD zs) (hs : 0 ≤ s) (hr : Rd w B A (ints zs)) (ht : Test w A n c s p q r) :
    Calls Tryz.prog 195 #[.int .i64 64, .func (.func 196) #[] #[.pointer (some ⟨q, 0, none⟩), .pointer (some ⟨r, 0, none⟩)]] w (Finds (lv s zs 64 : Nat) w) := by
  have C := Lib.hid (fun (m i : Nat) (h : i ≤ 64) => test A n c zs s i B p q r (w.drewN m) hn hb hd h (hr.drewN m) (ht.drewN m))
  have HD := Lib.hid hd
  have HS := Lib.hid hs
  clear hn hb hd hr ht hs
  go_enter Tryz.func195, Tryz.ntmps195
  go_wp2_with fail
  go_loopw [5, 6] (fun i j wr => ∃ a b m : Nat, i = .int .i64 a ∧ j = .int .i64 b ∧ a ≤ b ∧ b ≤ 64 ∧ Hid (a = 0 ∨ tot (cut zs (a : Int)) ≤ s) ∧ Hid (b = 64 ∨ s < tot (cut zs ((b : Int) + 1))) ∧ wr = w.drewN m) (fun i j _ => (intOf j).toNat - (intOf i).toNat)
  case atStart => exact ⟨0, 64, 0, rfl, rfl, by omega, by omega, Lib.hid (Or.inl rfl), Lib.hid (Or.inl rfl), rfl⟩
  case round =>
    obtain ⟨a, b, m, rfl, rfl, hab, hb64, HA, HB, rfl⟩ := hrel
    by_cases hlt : a < b
    · obtain ⟨h, hh⟩ : ∃ h : Nat, h = (a + b) / 2 := ⟨_, rfl⟩
      have eh : ((a : Int) + (b : Int)) / 2 = (h : Int) := by omega
      have h1 : a ≤ h := by omega
      have h2 : h < b := by omega
      clear hh
      go_wp2_with fail
      refine (C.out _ h (by omega)).mono ?_
      rintro e w' ⟨rfl, m2, rfl⟩
      rw [World.drewN_drewN]
      by_cases ht : s < tot (cut zs ((h : Int) + 1))
      · rw [decide_eq_true ht]
        have HB2 := Lib.hid (Or.inr ht : h = 64 ∨ s < tot (cut zs ((h : Int) + 1)))
        clear ht HB C
        go_wp2_with fail
        go_roundw
        case rel => exact ⟨a, h, _, rfl, rfl, h1, by omega, HA, HB2, rfl⟩
        case measure => simp [intOf]; omega
      · rw [decide_eq_false ht]
        have HA2 := Lib.hid (show h + 1 = 0 ∨ tot (cut zs ((h + 1 : Nat) : Int)) ≤ s from Or.inr (by push_cast; omega))
        clear ht HA C
        go_wp2_with fail
        go_roundw
        case rel => exact ⟨h + 1, b, _, by go_num, rfl, h2, hb64, HA2, HB, rfl⟩
        case measure => simp [intOf]; omega
    · obtain rfl : a = b := by omega
      have F := Lib.hid (lv_is HD.out HS.out hb64 HA.out HB.out)
      go_wp2_with fail
      go_ret
      exact ⟨ret_int (by rw [F.out]), m, rfl⟩

theorem Test.mk3 (w : World) (A : Option Addr) (n c : Nat) (s : Int) (p : Nat) (hp : w.cell? ⟨p, 0, none⟩ = some (.slice A n c)) :
    Test ((w.alloc (.cells #[.int .i64 s] 3)).alloc (.cells #[.func (.func 197) #[] #[.pointer (some ⟨p, 0, none⟩)]] 171)) A n c s p (w.heap.size + 1) w.heap.size := by
  have k1 := alloc1 w (.cells #[.int .i64 s] 3)
  have hlt := World.block_lt_of_cell? w _ hp
  have z1 : (w.alloc (.cells #[.int .i64 s] 3)).heap.size = w.heap.size + 1 := by simp
  have k2 := alloc1 (w.alloc (.cells #[.int .i64 s] 3)) (.cells #[.func (.func 197) #[] #[.pointer (some ⟨p, 0, none⟩)]] 171)
  refine ⟨?_, ?_, ?_⟩
  · rw [k2.cell (p := ⟨p, 0, none⟩) (by show p < _; rw [z1]; exact Nat.lt_succ_of_lt hlt), k1.cell (p := ⟨p, 0, none⟩) hlt]; exact hp
  · have := box_cell (w.alloc (.cells #[.int .i64 s] 3)) (.func (.func 197) #[] #[.pointer (some ⟨p, 0, none⟩)]) 171
    rwa [z1] at this
  · rw [k2.cell (p := ⟨w.heap.size, 0, none⟩) (by show _ < _; rw [z1]; exact Nat.lt_succ_self _)]
    exact box_cell w _ _

set_option maxHeartbeats 1000000 in
theorem highest (A : Option Addr) (n c : Nat) (zs : List Int) (s : Int) (p : Nat) (w : World) (hn : zs.length = n) (hb : zs.length ≤ 8) (hd : okD zs) (hs : 0 ≤ s) (hr : Rd w w.heap.size A (ints zs)) (hp : w.cell? ⟨p, 0, none⟩ = some (.slice A n c)) :
    Calls Tryz.prog 184 #[.int .i64 s, .func (.func 197) #[] #[.pointer (some ⟨p, 0, none⟩)]] w (Num (lv s zs 64 : Nat) w) := by
  have hmf : ∀ (fn : Fn) (first cap : Array Value) (w : World), (Instr.makeFunc fn first cap).run Tryz.prog w = .ok (.func fn first cap) w := fun _ _ _ _ => rfl
  have T := Test.mk3 w A n c s p hp
  have BB := Lib.hid ((alloc1 w (.cells #[.int .i64 s] 3)).trans ((alloc1 (w.alloc (.cells #[.int .i64 s] 3)) (.cells #[.func (.func 197) #[] #[.pointer (some ⟨p, 0, none⟩)]] 171)).mono (by simp)))
  have C := Lib.hid (search A n c zs s w.heap.size p (w.heap.size + 1) w.heap.size _ hn hb hd hs (hr.below BB.out) T)
  clear hn hb hd hs hr hp T
  go_enter Tryz.func184, Tryz.ntmps184
  go_wp2_with fail
  refine C.out.mono ?_
  rintro e w' ⟨rfl, m, rfl⟩
  go_wp2_with fail
  go_ret
  exact ⟨rfl, below_drewN BB.out m⟩

/-- Whether a level is asked for. -/
def lvl (r : Bool) (s : Int) (zs : List Int) : Int := if r then (lv s zs 64 : Nat) else 0

set_option maxHeartbeats 1000000 in
theorem levelI (A : Option Addr) (n c : Nat) (zs : List Int) (s : Int) (w : World) (hn : zs.length = n) (hb : n ≤ 1048576) (hr : Rd w w.heap.size A (ints zs)) :
    Calls Tryz.prog 166 #[.int .i64 s, .slice A n c] w (Num (level s zs : Nat) w) := by
  have R := Lib.hid hr
  have N := Lib.hid hn
  by_cases hd : dm zs = true
  · have C := Lib.hid (demI_of hd A n c w.heap.size w N.out hb R.out)
    by_cases hs : 0 ≤ s ∧ s ≤ 512
    · have CS := Lib.hid (fun v => isSupply_of (iw_yes hs) v)
      have K := Lib.hid (alloc1 w (.cells #[.slice A n c] 117))
      have H := Lib.hid (highest A n c zs s w.heap.size (w.alloc (.cells #[.slice A n c] 117)) N.out (dm_iff.1 hd).1 (dm_iff.1 hd).2 hs.1 ((R.out.below K.out).more K.out.size) (box_cell w _ _))
      have F := Lib.hid (level_yes hd hs.1 hs.2)
      clear hr hn hd hs
      go_enter Tryz.func166, Tryz.ntmps166
      go_wp2_with fail
      refine C.out.mono ?_
      rintro e w' ⟨rfl, rfl⟩
      go_wp2_with fail
      refine (CS.out _).mono ?_
      rintro e w' ⟨rfl, rfl⟩
      go_wp2_with fail
      refine (totalsOf A n c _).mono ?_
      rintro e w' ⟨rfl, rfl⟩
      go_wp2_with fail
      refine H.out.mono ?_
      rintro e w2 ⟨rfl, hb2⟩
      have BB := Lib.hid (K.out.trans (hb2.mono K.out.size))
      clear hb2
      go_wp2_with fail
      go_ret
      exact ⟨ret_int (by rw [F.out]), BB.out⟩
    · have CS := Lib.hid (fun v => isSupply_of (iw_no (x := s) (a := 0) (b := 512) (by omega)) v)
      have F := Lib.hid (level_no (s := s) (zs := zs) (fun c => hs c.2))
      clear hr hn hd hs
      go_enter Tryz.func166, Tryz.ntmps166
      go_wp2_with fail
      refine C.out.mono ?_
      rintro e w' ⟨rfl, rfl⟩
      go_wp2_with fail
      refine (CS.out _).mono ?_
      rintro e w' ⟨rfl, rfl⟩
      go_wp2_with fail
      go_ret
      exact ⟨ret_int (by rw [F.out]; rfl), Below.refl _ _⟩
  · have hd2 : dm zs = false := by simpa using hd
    have C := Lib.hid (demI_of hd2 A n c w.heap.size w N.out hb R.out)
    have F := Lib.hid (level_no (s := s) (zs := zs) (fun c => hd c.1))
    clear hr hn hd hd2
    go_enter Tryz.func166, Tryz.ntmps166
    go_wp2_with fail
    refine C.out.mono ?_
    rintro e w' ⟨rfl, rfl⟩
    go_wp2_with fail
    go_ret
    exact ⟨ret_int (by rw [F.out]; rfl), Below.refl _ _⟩

set_option maxHeartbeats 1000000 in
theorem levelS (A : Option Addr) (n c : Nat) (zs : List Int) (s : Int) (w : World) (hn : zs.length = n) (hb : n ≤ 1048576) (hr : Rd w w.heap.size A (ints zs)) :
    Calls Tryz.prog 155 #[.int .i64 s, .slice A n c] w (Num (level s zs : Nat) w) := by
  have R := Lib.hid hr
  have N := Lib.hid hn
  by_cases hd : dm zs = true
  · have C := Lib.hid (fun B v (h : Rd v B A (ints zs)) => demS_of hd A n c B v N.out hb h)
    by_cases hs : 0 ≤ s ∧ s ≤ 512
    · have CS := Lib.hid (fun v => l5Supply_of (iw_yes hs) v)
      have F := Lib.hid (level_yes hd hs.1 hs.2)
      have D := Lib.hid (dm_iff.1 hd)
      clear hr hn hd hs
      go_enter Tryz.func155, Tryz.ntmps155
      go_wp2_with fail
      go_loopw [5, 6] (fun v i wr => ∃ k l : Nat, k ≤ 64 ∧ i = .int .i64 ((k : Int) + 1) ∧ v = .int .i64 l ∧ l ≤ 64 ∧ Hid (lv s zs k = l) ∧ Hid (Below w.heap.size w wr)) (fun _ i _ => 65 - (intOf i).toNat)
      case atStart => exact ⟨0, 0, by omega, rfl, rfl, by omega, Lib.hid rfl, Lib.hid (Below.refl _ _)⟩
      case round =>
        obtain ⟨k, l, hk, rfl, rfl, hl, HL, BK⟩ := hrel
        by_cases hlt : k < 64
        · have d1 : decide ((k : Int) + 1 ≤ 64) = true := decide_eq_true (by omega)
          have RD := Lib.hid ((R.out.below BK.out).more BK.out.size)
          go_wp2_with fail
          refine (C.out _ _ RD.out).mono ?_
          rintro e w' ⟨rfl, rfl⟩
          go_wp2_with fail
          refine (CS.out _).mono ?_
          rintro e w' ⟨rfl, rfl⟩
          go_wp2_with fail
          refine (l5Cut A n c zs ((k : Int) + 1) _ N.out hb RD.out).mono ?_
          rintro e w1 ⟨g, d, rfl, ho, hb1⟩
          have S := Lib.hid (sumS (some ⟨g, 0, none⟩) (cut zs ((k : Int) + 1)).length d (cut zs ((k : Int) + 1)) _ w1 rfl (by rw [cut_len]; exact D.out.1) (cut_ok D.out.2 (by omega)) (Rd.own ho))
          have BB := Lib.hid (BK.out.trans (hb1.mono BK.out.size))
          clear ho hb1 RD
          go_wp2_with fail
          refine S.out.mono ?_
          rintro e w' ⟨rfl, rfl⟩
          by_cases ht : tot (cut zs ((k : Int) + 1)) ≤ s
          · have HK := Lib.hid (lv_yes ht : lv s zs (k + 1) = k + 1)
            have d2 : decide (tot (cut zs ((k : Int) + 1)) ≤ s) = true := decide_eq_true ht
            clear ht S HL C CS d1
            go_wp2_with fail
            go_roundw
            case rel => exact ⟨k + 1, k + 1, by omega, by go_num, by go_num, by omega, HK, BB⟩
            case measure => simp [intOf]; omega
          · have HK := Lib.hid ((lv_no ht).trans HL.out)
            have d2 : decide (tot (cut zs ((k : Int) + 1)) ≤ s) = false := decide_eq_false ht
            clear ht S HL C CS d1
            go_wp2_with fail
            go_roundw
            case rel => exact ⟨k + 1, l, by omega, by go_num, rfl, hl, HK, BB⟩
            case measure => simp [intOf]; omega
        · obtain rfl : k = 64 := by omega
          have F2 := Lib.hid (show l = level s zs by rw [F.out, HL.out])
          clear HL hlt
          go_wp2_with fail
          go_ret
          exact ⟨ret_int (by rw [F2.out]), BK.out⟩
    · have CS := Lib.hid (fun v => l5Supply_of (iw_no (x := s) (a := 0) (b := 512) (by omega)) v)
      have F := Lib.hid (level_no (s := s) (zs := zs) (fun c => hs c.2))
      clear hr hn hd hs
      go_enter Tryz.func155, Tryz.ntmps155
      go_wp2_with fail
      refine wp_loop_rounds 1 ?_
      rw [rounds_succ]
      go_wp2_with fail
      refine (C.out _ _ R.out).mono ?_
      rintro e w' ⟨rfl, rfl⟩
      go_wp2_with fail
      refine (CS.out _).mono ?_
      rintro e w' ⟨rfl, rfl⟩
      go_wp2_with fail
      go_ret
      exact ⟨ret_int (by rw [F.out]; rfl), Below.refl _ _⟩
  · have hd2 : dm zs = false := by simpa using hd
    have C := Lib.hid (demS_of hd2 A n c w.heap.size w N.out hb R.out)
    have F := Lib.hid (level_no (s := s) (zs := zs) (fun c => hd c.1))
    clear hr hn hd hd2
    go_enter Tryz.func155, Tryz.ntmps155
    go_wp2_with fail
    refine wp_loop_rounds 1 ?_
    rw [rounds_succ]
    go_wp2_with fail
    refine C.out.mono ?_
    rintro e w' ⟨rfl, rfl⟩
    go_wp2_with fail
    go_ret
    exact ⟨ret_int (by rw [F.out]; rfl), Below.refl _ _⟩

end Go.Proofs.YtejeikfgmiadhabGreat.Wl
