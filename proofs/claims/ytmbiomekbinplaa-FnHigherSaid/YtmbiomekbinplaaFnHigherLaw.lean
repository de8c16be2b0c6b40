/- The law FnHigher holds at every input. The step from the walk to the row follows the guide's own template. -/
import Derived.Test.YtmbiomekbinplaaMem
import Derived.Test.YtmbiomekbinplaaDr8
import Derived.Test.YtmbiomekbinplaaHi8
import Derived.Test.YtmbiomekbinplaaCt8
import Derived.Test.YtmbiomekbinplaaLe5
import Derived.Test.YtmbiomekbinplaaTakeC
import Derived.Deep.RegionHeld3
import Derived.BigQuiet
import Derived.Lib.MinMax
namespace Go.Proofs.Ytmbiomekbinplaa.fnHigher
open Go.ChangeShapes Go.WideShapes Go.ChangeAt Go.RowKit Go.WideMaps Go.WideElems Go.Proofs.Ytmbiomekbinplaa.Mem
open Go.ChangeMaps (open_string shut_string)
set_option linter.unusedVariables false
set_option linter.unusedSimpArgs false

theorem own : ownKnob Try.prog.godebug = none := by kernel_rfl
theorem laidOut : laidOutB Try.prog = true := by kernel_rfl

open Go.Proofs.Ytmbiomekbinplaa.Rw Go.Proofs.Ytmbiomekbinplaa.Tk Go.Proofs.Ytmbiomekbinplaa.Dr8 
open Go.Proofs.Ytmbiomekbinplaa.Rw (owns_below owns_grown owns_base)

theorem hi_comm (a b : List Int) : hi a b = hi b a := by
  unfold hi
  rw [Nat.max_comm]
  refine List.map_congr_left fun k _ => ?_
  exact Int.max_comm _ _
theorem getD_get (a : List Int) (k : Nat) : a.getD k 0 = (a[k]?).getD 0 := List.getD_eq_getElem?_getD ..
theorem hi_self (a : List Int) : hi a a = a := by
  refine List.ext_getElem? fun k => ?_
  by_cases h : k < a.length
  · rw [hi_get (by omega), getD_get, List.getElem?_eq_getElem h]
    simp
  · rw [List.getElem?_eq_none (by rw [hi_len]; omega), List.getElem?_eq_none (by omega)]
theorem ct_len2 (a : List Int) (m : Int) : (ct a m).length = a.length := by unfold ct; exact List.length_map ..
theorem ct_getD (a : List Int) (k : Nat) : (ct a 12).getD k 0 = min (a.getD k 0) 12 := by
  rw [getD_get, getD_get]
  unfold ct
  rw [List.getElem?_map]
  cases a[k]? <;> simp
  rfl
theorem ct_hi (a b : List Int) : hi (ct a 12) (ct b 12) = ct (hi a b) 12 := by
  refine List.ext_getElem? fun k => ?_
  by_cases h : k < max a.length b.length
  · rw [hi_get (by rw [ct_len2, ct_len2]; exact h), ct_getD, ct_getD]
    unfold ct
    rw [List.getElem?_map, hi_get h]
    simp only [Option.map_some]
    congr 1
    omega
  · rw [List.getElem?_eq_none (by rw [hi_len, ct_len2, ct_len2]; omega), List.getElem?_eq_none (by rw [ct_len2, hi_len]; omega)]
theorem ct_ok {a : List Int} (h : okT a) : okT (ct a 12) := fun z hz => by
  unfold ct at hz
  obtain ⟨y, hy, rfl⟩ := List.mem_map.1 hz
  have := h y hy
  omega
theorem max_cast (q p : Nat) : max (q : Int) (p : Int) = ((max q p : Nat) : Int) := by omega

set_option maxHeartbeats 4000000 in
set_option maxRecDepth 100000 in
theorem walk (A : Option Addr) (n c : Nat) (bs : List UInt8) (hn : bs.length = n) (hm : n ≤ maxLen) (w : World) (hr : Rd w w.heap.size A (Draw.u8s bs)) :
    Calls Try.prog 6 #[.slice A n c] w fun e w' => e = .returned (.bool true) ∧ Below w.heap.size w w' := by
  have hu : undef = Value.tuple #[] := rfl
  by_cases hbig : (n : Int) ≤ 4096
  · have D := Lib.hid (drawH w A n c bs hn (by omega) hr)
    clear hm
    go_enter Try.func6, Try.ntmps6
    go_wp2_with (go_at_call 8; go_enter Try.func8, Try.ntmps8)
    refine D.out.mono ?_
    rintro e wd0 ⟨zs, us, q, p, gZ, gU, cZ, cU, hl, hlu, hq, hp, rfl, hR, hRu, hB⟩
    cases htz : tk zs
    · obtain ⟨tu, htu⟩ : ∃ b, tk us = b := ⟨_, rfl⟩
      have BB := Lib.hid hB
      have Z := Lib.hid (Rd.own hR)
      have U := Lib.hid (Rd.own hRu)
      obtain ⟨H, hH⟩ : ∃ H, hiV zs us = H := ⟨_, rfl⟩
      obtain ⟨N, hHl⟩ : ∃ N, H.length = N := ⟨_, rfl⟩
      have CHI := Lib.hid (show ∀ (W : World) (h1 : Rd W W.heap.size (some ⟨gZ, 0, none⟩) (ints zs)) (h2 : Rd W W.heap.size (some ⟨gU, 0, none⟩) (ints us)), Calls Try.prog 24 #[.slice (some ⟨gZ, 0, none⟩) q cZ, .slice (some ⟨gU, 0, none⟩) p cU] W (fun e w' => ∃ g c, e = .returned (.slice (some ⟨g, 0, none⟩) N c) ∧ w'.ownsRow W.heap.size 3 1 (.slice (some ⟨g, 0, none⟩) N c) N (ints H) ∧ Below W.heap.size W w') from fun W h1 h2 => by
        have := Hi8.higherI (some ⟨gZ, 0, none⟩) q cZ zs (some ⟨gU, 0, none⟩) p cU us W hl (by omega) hlu (by omega) h1 h2
        rw [hH] at this
        unfold Fw8.RowI at this
        rw [hHl] at this
        exact this)
      have CHS := Lib.hid (show ∀ (W : World) (h1 : Rd W W.heap.size (some ⟨gZ, 0, none⟩) (ints zs)) (h2 : Rd W W.heap.size (some ⟨gU, 0, none⟩) (ints us)), Calls Try.prog 25 #[.slice (some ⟨gZ, 0, none⟩) q cZ, .slice (some ⟨gU, 0, none⟩) p cU] W (fun e w' => ∃ g c, e = .returned (.slice (some ⟨g, 0, none⟩) N c) ∧ w'.ownsRow W.heap.size 3 1 (.slice (some ⟨g, 0, none⟩) N c) N (ints H) ∧ Below W.heap.size W w') from fun W h1 h2 => by
        have := Hi8.higherS (some ⟨gZ, 0, none⟩) q cZ zs (some ⟨gU, 0, none⟩) p cU us W hl (by omega) hlu (by omega) h1 h2
        rw [hH] at this
        unfold Fw8.RowI at this
        rw [hHl] at this
        exact this)
      have CT1 := Lib.hid (fun (W : World) (h : Rd W W.heap.size (some ⟨gZ, 0, none⟩) (ints zs)) => htz ▸ Ti8.trkI (some ⟨gZ, 0, none⟩) q cZ zs W.heap.size W hl (by omega) h)
      have CT2 := Lib.hid (fun (W : World) (h : Rd W W.heap.size (some ⟨gU, 0, none⟩) (ints us)) => htu ▸ Ti8.trkI (some ⟨gU, 0, none⟩) p cU us W.heap.size W hlu (by omega) h)
      have hH0 : H = [] := by rw [← hH]; exact hiV_no (fun h => by rw [htz] at h; cases h.1)
      obtain rfl : N = 0 := by rw [← hHl, hH0]; rfl
      clear D hbig hR hRu hB hn hr hH hH0 hHl hl hlu htz htu
      go_wp2_with fail
      refine (CHI.out _ Z.out U.out).mono ?_
      rintro e wx ⟨gX, cX, rfl, ho, hb⟩
      have X := Lib.hid (Rd.own ho)
      have BB2 := Lib.hid (BB.out.trans (hb.mono BB.out.size))
      clear ho
      have Zn := Lib.hid ((Z.out.below hb).more hb.size)
      have Un := Lib.hid ((U.out.below hb).more hb.size)
      clear hb BB Z U
      have BB := BB2
      clear BB2
      have Z := Zn
      clear Zn
      have U := Un
      clear Un
      go_wp2_with fail
      refine (CHS.out _ Z.out U.out).mono ?_
      rintro e wx ⟨gY, cY, rfl, ho, hb⟩
      have Y := Lib.hid (Rd.own ho)
      have BB2 := Lib.hid (BB.out.trans (hb.mono BB.out.size))
      clear ho
      have Zn := Lib.hid ((Z.out.below hb).more hb.size)
      have Un := Lib.hid ((U.out.below hb).more hb.size)
      have Xn := Lib.hid ((X.out.below hb).more hb.size)
      clear hb BB Z U X
      have BB := BB2
      clear BB2
      have Z := Zn
      clear Zn
      have U := Un
      clear Un
      have X := Xn
      clear Xn
      go_wp2_with fail
      refine (CT1.out _ Z.out).mono ?_
      rintro e wz ⟨rfl, rfl⟩
      go_wp2_with fail
      go_ret
      exact ⟨rfl, BB.out⟩
    · cases htu : tk us
      · have BB := Lib.hid hB
        have Z := Lib.hid (Rd.own hR)
        have U := Lib.hid (Rd.own hRu)
        obtain ⟨H, hH⟩ : ∃ H, hiV zs us = H := ⟨_, rfl⟩
        obtain ⟨N, hHl⟩ : ∃ N, H.length = N := ⟨_, rfl⟩
        have CHI := Lib.hid (show ∀ (W : World) (h1 : Rd W W.heap.size (some ⟨gZ, 0, none⟩) (ints zs)) (h2 : Rd W W.heap.size (some ⟨gU, 0, none⟩) (ints us)), Calls Try.prog 24 #[.slice (some ⟨gZ, 0, none⟩) q cZ, .slice (some ⟨gU, 0, none⟩) p cU] W (fun e w' => ∃ g c, e = .returned (.slice (some ⟨g, 0, none⟩) N c) ∧ w'.ownsRow W.heap.size 3 1 (.slice (some ⟨g, 0, none⟩) N c) N (ints H) ∧ Below W.heap.size W w') from fun W h1 h2 => by
          have := Hi8.higherI (some ⟨gZ, 0, none⟩) q cZ zs (some ⟨gU, 0, none⟩) p cU us W hl (by omega) hlu (by omega) h1 h2
          rw [hH] at this
          unfold Fw8.RowI at this
          rw [hHl] at this
          exact this)
        have CHS := Lib.hid (show ∀ (W : World) (h1 : Rd W W.heap.size (some ⟨gZ, 0, none⟩) (ints zs)) (h2 : Rd W W.heap.size (some ⟨gU, 0, none⟩) (ints us)), Calls Try.prog 25 #[.slice (some ⟨gZ, 0, none⟩) q cZ, .slice (some ⟨gU, 0, none⟩) p cU] W (fun e w' => ∃ g c, e = .returned (.slice (some ⟨g, 0, none⟩) N c) ∧ w'.ownsRow W.heap.size 3 1 (.slice (some ⟨g, 0, none⟩) N c) N (ints H) ∧ Below W.heap.size W w') from fun W h1 h2 => by
          have := Hi8.higherS (some ⟨gZ, 0, none⟩) q cZ zs (some ⟨gU, 0, none⟩) p cU us W hl (by omega) hlu (by omega) h1 h2
          rw [hH] at this
          unfold Fw8.RowI at this
          rw [hHl] at this
          exact this)
        have CT1 := Lib.hid (fun (W : World) (h : Rd W W.heap.size (some ⟨gZ, 0, none⟩) (ints zs)) => htz ▸ Ti8.trkI (some ⟨gZ, 0, none⟩) q cZ zs W.heap.size W hl (by omega) h)
        have CT2 := Lib.hid (fun (W : World) (h : Rd W W.heap.size (some ⟨gU, 0, none⟩) (ints us)) => htu ▸ Ti8.trkI (some ⟨gU, 0, none⟩) p cU us W.heap.size W hlu (by omega) h)
        have hH0 : H = [] := by rw [← hH]; exact hiV_no (fun h => by rw [htu] at h; cases h.2)
        obtain rfl : N = 0 := by rw [← hHl, hH0]; rfl
        clear D hbig hR hRu hB hn hr hH hH0 hHl hl hlu htz htu
        go_wp2_with fail
        refine (CHI.out _ Z.out U.out).mono ?_
        rintro e wx ⟨gX, cX, rfl, ho, hb⟩
        have X := Lib.hid (Rd.own ho)
        have BB2 := Lib.hid (BB.out.trans (hb.mono BB.out.size))
        clear ho
        have Zn := Lib.hid ((Z.out.below hb).more hb.size)
        have Un := Lib.hid ((U.out.below hb).more hb.size)
        clear hb BB Z U
        have BB := BB2
        clear BB2
        have Z := Zn
        clear Zn
        have U := Un
        clear Un
        go_wp2_with fail
        refine (CHS.out _ Z.out U.out).mono ?_
        rintro e wx ⟨gY, cY, rfl, ho, hb⟩
        have Y := Lib.hid (Rd.own ho)
        have BB2 := Lib.hid (BB.out.trans (hb.mono BB.out.size))
        clear ho
        have Zn := Lib.hid ((Z.out.below hb).more hb.size)
        have Un := Lib.hid ((U.out.below hb).more hb.size)
        have Xn := Lib.hid ((X.out.below hb).more hb.size)
        clear hb BB Z U X
        have BB := BB2
        clear BB2
        have Z := Zn
        clear Zn
        have U := Un
        clear Un
        have X := Xn
        clear Xn
        go_wp2_with fail
        refine (CT1.out _ Z.out).mono ?_
        rintro e wz ⟨rfl, rfl⟩
        go_wp2_with fail
        refine (CT2.out _ U.out).mono ?_
        rintro e wz ⟨rfl, rfl⟩
        go_wp2_with fail
        go_ret
        exact ⟨rfl, BB.out⟩
      · have BB := Lib.hid hB
        have Z := Lib.hid (Rd.own hR)
        have U := Lib.hid (Rd.own hRu)
        obtain ⟨H, hH⟩ : ∃ H, hiV zs us = H := ⟨_, rfl⟩
        obtain ⟨N, hHl⟩ : ∃ N, H.length = N := ⟨_, rfl⟩
        have CHI := Lib.hid (show ∀ (W : World) (h1 : Rd W W.heap.size (some ⟨gZ, 0, none⟩) (ints zs)) (h2 : Rd W W.heap.size (some ⟨gU, 0, none⟩) (ints us)), Calls Try.prog 24 #[.slice (some ⟨gZ, 0, none⟩) q cZ, .slice (some ⟨gU, 0, none⟩) p cU] W (fun e w' => ∃ g c, e = .returned (.slice (some ⟨g, 0, none⟩) N c) ∧ w'.ownsRow W.heap.size 3 1 (.slice (some ⟨g, 0, none⟩) N c) N (ints H) ∧ Below W.heap.size W w') from fun W h1 h2 => by
          have := Hi8.higherI (some ⟨gZ, 0, none⟩) q cZ zs (some ⟨gU, 0, none⟩) p cU us W hl (by omega) hlu (by omega) h1 h2
          rw [hH] at this
          unfold Fw8.RowI at this
          rw [hHl] at this
          exact this)
        have CHS := Lib.hid (show ∀ (W : World) (h1 : Rd W W.heap.size (some ⟨gZ, 0, none⟩) (ints zs)) (h2 : Rd W W.heap.size (some ⟨gU, 0, none⟩) (ints us)), Calls Try.prog 25 #[.slice (some ⟨gZ, 0, none⟩) q cZ, .slice (some ⟨gU, 0, none⟩) p cU] W (fun e w' => ∃ g c, e = .returned (.slice (some ⟨g, 0, none⟩) N c) ∧ w'.ownsRow W.heap.size 3 1 (.slice (some ⟨g, 0, none⟩) N c) N (ints H) ∧ Below W.heap.size W w') from fun W h1 h2 => by
          have := Hi8.higherS (some ⟨gZ, 0, none⟩) q cZ zs (some ⟨gU, 0, none⟩) p cU us W hl (by omega) hlu (by omega) h1 h2
          rw [hH] at this
          unfold Fw8.RowI at this
          rw [hHl] at this
          exact this)
        have CT1 := Lib.hid (fun (W : World) (h : Rd W W.heap.size (some ⟨gZ, 0, none⟩) (ints zs)) => htz ▸ Ti8.trkI (some ⟨gZ, 0, none⟩) q cZ zs W.heap.size W hl (by omega) h)
        have CT2 := Lib.hid (fun (W : World) (h : Rd W W.heap.size (some ⟨gU, 0, none⟩) (ints us)) => htu ▸ Ti8.trkI (some ⟨gU, 0, none⟩) p cU us W.heap.size W hlu (by omega) h)
        have hHy : hiV zs us = hi zs us := hiV_yes htz htu
        have hNm : N = max q p := by rw [← hHl, ← hH, hHy, hi_len, hl, hlu]
        obtain ⟨okz, oku⟩ := And.intro (tk_iff.1 htz).2 (tk_iff.1 htu).2
        have hzl := (tk_iff.1 htz).1
        have hul := (tk_iff.1 htu).1
        obtain ⟨C, hC⟩ : ∃ C, ct H 12 = C := ⟨_, rfl⟩
        have hCl : C.length = N := by rw [← hC, ct_len2, hHl]
        have htH : tk H = true := by rw [← hH, hHy]; exact tk_yes (by rw [hi_len]; omega) (hi_ok okz oku)
        have hcz : tk (ct zs 12) = true := tk_yes (by rw [ct_len2]; exact hzl) (ct_ok okz)
        have hcu : tk (ct us 12) = true := tk_yes (by rw [ct_len2]; exact hul) (ct_ok oku)
        have CHB := Lib.hid (show ∀ (W : World) (h1 : Rd W W.heap.size (some ⟨gZ, 0, none⟩) (ints zs)) (h2 : Rd W W.heap.size (some ⟨gU, 0, none⟩) (ints us)), Calls Try.prog 24 #[.slice (some ⟨gU, 0, none⟩) p cU, .slice (some ⟨gZ, 0, none⟩) q cZ] W (fun e w' => ∃ g c, e = .returned (.slice (some ⟨g, 0, none⟩) N c) ∧ w'.ownsRow W.heap.size 3 1 (.slice (some ⟨g, 0, none⟩) N c) N (ints H) ∧ Below W.heap.size W w') from fun W h1 h2 => by
          have := Hi8.higherI (some ⟨gU, 0, none⟩) p cU us (some ⟨gZ, 0, none⟩) q cZ zs W hlu (by omega) hl (by omega) h2 h1
          rw [hiV_yes htu htz, hi_comm, ← hHy, hH] at this
          unfold Fw8.RowI at this
          rw [hHl] at this
          exact this)
        have CHA := Lib.hid (show ∀ (W : World) (h1 : Rd W W.heap.size (some ⟨gZ, 0, none⟩) (ints zs)), Calls Try.prog 24 #[.slice (some ⟨gZ, 0, none⟩) q cZ, .slice (some ⟨gZ, 0, none⟩) q cZ] W (fun e w' => ∃ g c, e = .returned (.slice (some ⟨g, 0, none⟩) q c) ∧ w'.ownsRow W.heap.size 3 1 (.slice (some ⟨g, 0, none⟩) q c) q (ints zs) ∧ Below W.heap.size W w') from fun W h1 => by
          have := Hi8.higherI (some ⟨gZ, 0, none⟩) q cZ zs (some ⟨gZ, 0, none⟩) q cZ zs W hl (by omega) hl (by omega) h1 h1
          rw [hiV_yes htz htz, hi_self] at this
          unfold Fw8.RowI at this
          rw [hl] at this
          exact this)
        have CC1 := Lib.hid (show ∀ (g c : Nat) (W : World) (h : Rd W W.heap.size (some ⟨g, 0, none⟩) (ints H)), Calls Try.prog 26 #[.slice (some ⟨g, 0, none⟩) N c, .int .i64 12] W (fun e w' => ∃ g c, e = .returned (.slice (some ⟨g, 0, none⟩) N c) ∧ w'.ownsRow W.heap.size 3 1 (.slice (some ⟨g, 0, none⟩) N c) N (ints C) ∧ Below W.heap.size W w') from fun g c W h => by
          have := Ct8.cutI (some ⟨g, 0, none⟩) N c H 12 W hHl (by omega) h
          rw [ctV_yes htH (by omega), hC] at this
          unfold Fw8.RowI at this
          rw [hCl] at this
          exact this)
        have CC2 := Lib.hid (show ∀ (W : World) (h : Rd W W.heap.size (some ⟨gZ, 0, none⟩) (ints zs)), Calls Try.prog 26 #[.slice (some ⟨gZ, 0, none⟩) q cZ, .int .i64 12] W (fun e w' => ∃ g c, e = .returned (.slice (some ⟨g, 0, none⟩) q c) ∧ w'.ownsRow W.heap.size 3 1 (.slice (some ⟨g, 0, none⟩) q c) q (ints (ct zs 12)) ∧ Below W.heap.size W w') from fun W h => by
          have := Ct8.cutI (some ⟨gZ, 0, none⟩) q cZ zs 12 W hl (by omega) h
          rw [ctV_yes htz (by omega)] at this
          unfold Fw8.RowI at this
          rw [ct_len2, hl] at this
          exact this)
        have CC3 := Lib.hid (show ∀ (W : World) (h : Rd W W.heap.size (some ⟨gU, 0, none⟩) (ints us)), Calls Try.prog 26 #[.slice (some ⟨gU, 0, none⟩) p cU, .int .i64 12] W (fun e w' => ∃ g c, e = .returned (.slice (some ⟨g, 0, none⟩) p c) ∧ w'.ownsRow W.heap.size 3 1 (.slice (some ⟨g, 0, none⟩) p c) p (ints (ct us 12)) ∧ Below W.heap.size W w') from fun W h => by
          have := Ct8.cutI (some ⟨gU, 0, none⟩) p cU us 12 W hlu (by omega) h
          rw [ctV_yes htu (by omega)] at this
          unfold Fw8.RowI at this
          rw [ct_len2, hlu] at this
          exact this)
        have CHC := Lib.hid (show ∀ (g1 c1 g2 c2 : Nat) (W : World) (h1 : Rd W W.heap.size (some ⟨g1, 0, none⟩) (ints (ct zs 12))) (h2 : Rd W W.heap.size (some ⟨g2, 0, none⟩) (ints (ct us 12))), Calls Try.prog 24 #[.slice (some ⟨g1, 0, none⟩) q c1, .slice (some ⟨g2, 0, none⟩) p c2] W (fun e w' => ∃ g c, e = .returned (.slice (some ⟨g, 0, none⟩) N c) ∧ w'.ownsRow W.heap.size 3 1 (.slice (some ⟨g, 0, none⟩) N c) N (ints C) ∧ Below W.heap.size W w') from fun g1 c1 g2 c2 W h1 h2 => by
          have := Hi8.higherI (some ⟨g1, 0, none⟩) q c1 (ct zs 12) (some ⟨g2, 0, none⟩) p c2 (ct us 12) W (by rw [ct_len2, hl]) (by omega) (by rw [ct_len2, hlu]) (by omega) h1 h2
          rw [hiV_yes hcz hcu, ct_hi, ← hHy, hH, hC] at this
          unfold Fw8.RowI at this
          rw [hCl] at this
          exact this)
        have HG := Lib.hid (fun (k : Nat) (h : k < N) => (by rw [← hH, hHy, hi_get (by rw [hl, hlu, ← hNm]; exact h)] : H[k]? = some (max (zs.getD k 0) (us.getD k 0))))
        have ZG := Lib.hid (fun (k : Nat) (h : k < q) => (by obtain ⟨z, hz⟩ : ∃ z, zs[k]? = some z := ⟨_, List.getElem?_eq_getElem (by omega)⟩
                                                             exact ⟨z, hz, by rw [getD_get, hz]; rfl, (okT_get okz hz).1⟩ : ∃ z, zs[k]? = some z ∧ zs.getD k 0 = z ∧ 0 ≤ z))
        have UG := Lib.hid (fun (k : Nat) (h : k < p) => (by obtain ⟨z, hz⟩ : ∃ z, us[k]? = some z := ⟨_, List.getElem?_eq_getElem (by omega)⟩
                                                             exact ⟨z, hz, by rw [getD_get, hz]; rfl, (okT_get oku hz).1⟩ : ∃ z, us[k]? = some z ∧ us.getD k 0 = z ∧ 0 ≤ z))
        have ZN := Lib.hid (fun (k : Nat) (h : ¬ k < q) => (by rw [getD_get, List.getElem?_eq_none (by omega)]; rfl : zs.getD k 0 = 0))
        have UN := Lib.hid (fun (k : Nat) (h : ¬ k < p) => (by rw [getD_get, List.getElem?_eq_none (by omega)]; rfl : us.getD k 0 = 0))
        have HL := Lib.hid hl
        have HLU := Lib.hid hlu
        have HHL := Lib.hid hHl
        have HCL := Lib.hid hCl
        have d0 : max (q : Int) (p : Int) = (N : Int) := by rw [hNm]; exact max_cast q p
        have d1 : max q p = N := hNm.symm
        have d2 : ((N : Int) == (N : Int)) = true := by simp
        have hN64 : N ≤ 65 := by omega
        have NM := Lib.hid hNm
        clear D hbig hR hRu hB hn hr hH hHl hl hlu htz htu hHy hNm okz oku hzl hul hC hCl htH hcz hcu
        go_wp2_with fail
        refine (CHI.out _ Z.out U.out).mono ?_
        rintro e wx ⟨gX, cX, rfl, ho, hb⟩
        have X := Lib.hid (Rd.own ho)
        have BB2 := Lib.hid (BB.out.trans (hb.mono BB.out.size))
        clear ho
        have Zn := Lib.hid ((Z.out.below hb).more hb.size)
        have Un := Lib.hid ((U.out.below hb).more hb.size)
        clear hb BB Z U
        have BB := BB2
        clear BB2
        have Z := Zn
        clear Zn
        have U := Un
        clear Un
        go_wp2_with fail
        refine (CHS.out _ Z.out U.out).mono ?_
        rintro e wx ⟨gY, cY, rfl, ho, hb⟩
        have Y := Lib.hid (Rd.own ho)
        have BB2 := Lib.hid (BB.out.trans (hb.mono BB.out.size))
        clear ho
        have Zn := Lib.hid ((Z.out.below hb).more hb.size)
        have Un := Lib.hid ((U.out.below hb).more hb.size)
        have Xn := Lib.hid ((X.out.below hb).more hb.size)
        clear hb BB Z U X
        have BB := BB2
        clear BB2
        have Z := Zn
        clear Zn
        have U := Un
        clear Un
        have X := Xn
        clear Xn
        go_wp2_with fail
        refine (CT1.out _ Z.out).mono ?_
        rintro e wz ⟨rfl, rfl⟩
        go_wp2_with fail
        refine (CT2.out _ U.out).mono ?_
        rintro e wz ⟨rfl, rfl⟩
        go_wp2_with fail
        refine (CHB.out _ Z.out U.out).mono ?_
        rintro e wx ⟨gV, cV, rfl, ho, hb⟩
        have V := Lib.hid (Rd.own ho)
        have BB2 := Lib.hid (BB.out.trans (hb.mono BB.out.size))
        clear ho
        have Zn := Lib.hid ((Z.out.below hb).more hb.size)
        have Un := Lib.hid ((U.out.below hb).more hb.size)
        have Xn := Lib.hid ((X.out.below hb).more hb.size)
        clear hb BB Z U X
        have BB := BB2
        clear BB2
        have Z := Zn
        clear Zn
        have U := Un
        clear Un
        have X := Xn
        clear Xn
        go_wp2_with fail
        refine (Le5.intsL _ _ N _ _ H _ _ HHL.out (by omega) X.out V.out).mono ?_
        rintro e wz ⟨rfl, m9, rfl⟩
        have hb := below_drewN (Below.refl wx.heap.size wx) m9
        have BB2 := Lib.hid (BB.out.trans (hb.mono BB.out.size))
        have Zn := Lib.hid ((Z.out.below hb).more hb.size)
        have Un := Lib.hid ((U.out.below hb).more hb.size)
        have Xn := Lib.hid ((X.out.below hb).more hb.size)
        clear hb BB Z U X
        have BB := BB2
        clear BB2
        have Z := Zn
        clear Zn
        have U := Un
        clear Un
        have X := Xn
        clear Xn
        obtain ⟨wa, hwa⟩ : ∃ wa, World.drewN wx m9 = wa := ⟨_, rfl⟩
        rw [hwa] at Z U X BB ⊢
        clear hwa V
        go_wp2_with fail
        refine (CHA.out _ Z.out).mono ?_
        rintro e wx ⟨gV2, cV2, rfl, ho, hb⟩
        have V := Lib.hid (Rd.own ho)
        have BB2 := Lib.hid (BB.out.trans (hb.mono BB.out.size))
        clear ho
        have Zn := Lib.hid ((Z.out.below hb).more hb.size)
        have Un := Lib.hid ((U.out.below hb).more hb.size)
        have Xn := Lib.hid ((X.out.below hb).more hb.size)
        clear hb BB Z U X
        have BB := BB2
        clear BB2
        have Z := Zn
        clear Zn
        have U := Un
        clear Un
        have X := Xn
        clear Xn
        go_wp2_with fail
        refine (Le5.intsL _ _ q _ _ zs _ _ HL.out (by omega) V.out Z.out).mono ?_
        rintro e wz ⟨rfl, m9, rfl⟩
        have hb := below_drewN (Below.refl wx.heap.size wx) m9
        have BB2 := Lib.hid (BB.out.trans (hb.mono BB.out.size))
        have Zn := Lib.hid ((Z.out.below hb).more hb.size)
        have Un := Lib.hid ((U.out.below hb).more hb.size)
        have Xn := Lib.hid ((X.out.below hb).more hb.size)
        clear hb BB Z U X
        have BB := BB2
        clear BB2
        have Z := Zn
        clear Zn
        have U := Un
        clear Un
        have X := Xn
        clear Xn
        obtain ⟨wo, hwo⟩ : ∃ wo, World.drewN wx m9 = wo := ⟨_, rfl⟩
        rw [hwo] at Z U X BB ⊢
        clear hwo V
        go_wp2_with fail
        go_loopw [6] (fun i wr => ∃ k m9 : Nat, k ≤ N ∧ i = .int .i64 k ∧ wr = wo.drewN m9) (fun i _ => N - (intOf i).toNat)
        case atStart => exact ⟨0, 0, Nat.zero_le _, rfl, rfl⟩
        case round =>
          obtain ⟨k, m9, hk, rfl, rfl⟩ := hrel
          by_cases hlt : k < N
          · have hv := HG.out k hlt
            have tN : (k : Int) < (N : Int) := by omega
            have dN : decide ((k : Int) < (N : Int)) = true := decide_eq_true tN
            by_cases hkq : k < q
            · obtain ⟨y, hy, hyd, y0⟩ := ZG.out k hkq
              have tq : (k : Int) < (q : Int) := by omega
              have dq : decide ((k : Int) < (q : Int)) = true := decide_eq_true tq
              obtain ⟨b2, o2, e2, _, h2⟩ := Z.out.get (k := k) (by rw [ints_len, HL.out]; exact hkq)
              obtain ⟨rfl, rfl⟩ : gZ = b2 ∧ 0 = o2 := by cases e2; exact ⟨rfl, rfl⟩
              have c2 : wo.cell? ⟨gZ, k, none⟩ = some (.int .i64 y) := by have := h2 _ _ (Fw8.ints_at hy); rw [Nat.zero_add] at this; exact this
              clear h2 e2
              rw [hyd] at hv
              by_cases hkp : k < p
              · obtain ⟨z, hz, hzd, z0⟩ := UG.out k hkp
                have tp : (k : Int) < (p : Int) := by omega
                have dp : decide ((k : Int) < (p : Int)) = true := decide_eq_true tp
                obtain ⟨b3, o3, e3, _, h3⟩ := U.out.get (k := k) (by rw [ints_len, HLU.out]; exact hkp)
                obtain ⟨rfl, rfl⟩ : gU = b3 ∧ 0 = o3 := by cases e3; exact ⟨rfl, rfl⟩
                have c3 : wo.cell? ⟨gU, k, none⟩ = some (.int .i64 z) := by have := h3 _ _ (Fw8.ints_at hz); rw [Nat.zero_add] at this; exact this
                clear h3 e3
                rw [hzd] at hv
                by_cases hyz : y = z
                · subst hyz
                  rw [Int.max_self] at hv
                  obtain ⟨b1, o1, e1, _, h1⟩ := X.out.get (k := k) (by rw [ints_len, HHL.out]; exact hlt)
                  obtain ⟨rfl, rfl⟩ : gX = b1 ∧ 0 = o1 := by cases e1; exact ⟨rfl, rfl⟩
                  have c1 : wo.cell? ⟨gX, k, none⟩ = some (.int .i64 y) := by have := h1 _ _ (Fw8.ints_at hv); rw [Nat.zero_add] at this; exact this
                  clear h1 e1
                  have e5 : (y == y) = true := by simp
                  have e6 : decide (y < y) = false := by simp
                  have e7 : ¬ y < y := by omega
                  clear hv hy hz hyd hzd
                  go_wp2_with fail
                  go_quiet (fail)
                  go_wp2_with fail
                  go_quiet (fail)
                  go_wp2_with fail
                  go_quiet (fail)
                  go_wp2_with fail
                  go_roundw
                  case rel => exact ⟨k + 1, _, by omega, by go_num, rfl⟩
                  case measure => simp [intOf]; omega
                · by_cases hyz2 : y < z
                  · rw [Int.max_eq_right (by omega)] at hv
                    obtain ⟨b1, o1, e1, _, h1⟩ := X.out.get (k := k) (by rw [ints_len, HHL.out]; exact hlt)
                    obtain ⟨rfl, rfl⟩ : gX = b1 ∧ 0 = o1 := by cases e1; exact ⟨rfl, rfl⟩
                    have c1 : wo.cell? ⟨gX, k, none⟩ = some (.int .i64 z) := by have := h1 _ _ (Fw8.ints_at hv); rw [Nat.zero_add] at this; exact this
                    clear h1 e1
                    have e5 : (z == z) = true := by simp
                    have e6 : decide (z < z) = false := by simp
                    have e7 : ¬ z < z := by omega
                    have e8 : (z == y) = false := by simp; omega
                    have e9 : decide (z < y) = false := by simp; omega
                    have e10 : ¬ z < y := by omega
                    clear hv hy hz hyd hzd hyz
                    go_wp2_with fail
                    go_quiet (fail)
                    go_wp2_with fail
                    go_quiet (fail)
                    go_wp2_with fail
                    go_quiet (fail)
                    go_wp2_with fail
                    go_roundw
                    case rel => exact ⟨k + 1, _, by omega, by go_num, rfl⟩
                    case measure => simp [intOf]; omega
                  · rw [Int.max_eq_left (by omega)] at hv
                    obtain ⟨b1, o1, e1, _, h1⟩ := X.out.get (k := k) (by rw [ints_len, HHL.out]; exact hlt)
                    obtain ⟨rfl, rfl⟩ : gX = b1 ∧ 0 = o1 := by cases e1; exact ⟨rfl, rfl⟩
                    have c1 : wo.cell? ⟨gX, k, none⟩ = some (.int .i64 y) := by have := h1 _ _ (Fw8.ints_at hv); rw [Nat.zero_add] at this; exact this
                    clear h1 e1
                    have e5 : (y == y) = true := by simp
                    have e6 : decide (y < y) = false := by simp
                    have e7 : ¬ y < y := by omega
                    have e8 : (y == z) = false := by simp; omega
                    have e9 : decide (y < z) = false := by simp; omega
                    have e10 : ¬ y < z := by omega
                    clear hv hy hz hyd hzd hyz
                    go_wp2_with fail
                    go_quiet (fail)
                    go_wp2_with fail
                    go_quiet (fail)
                    go_wp2_with fail
                    go_quiet (fail)
                    go_wp2_with fail
                    go_roundw
                    case rel => exact ⟨k + 1, _, by omega, by go_num, rfl⟩
                    case measure => simp [intOf]; omega
              · have hzd := UN.out k hkp
                rw [hzd, Int.max_eq_left y0] at hv
                have tp : ¬ (k : Int) < (p : Int) := by omega
                have dp : decide ((k : Int) < (p : Int)) = false := decide_eq_false tp
                obtain ⟨b1, o1, e1, _, h1⟩ := X.out.get (k := k) (by rw [ints_len, HHL.out]; exact hlt)
                obtain ⟨rfl, rfl⟩ : gX = b1 ∧ 0 = o1 := by cases e1; exact ⟨rfl, rfl⟩
                have c1 : wo.cell? ⟨gX, k, none⟩ = some (.int .i64 y) := by have := h1 _ _ (Fw8.ints_at hv); rw [Nat.zero_add] at this; exact this
                clear h1 e1
                have e5 : (y == y) = true := by simp
                have e6 : decide (y < y) = false := by simp
                have e7 : ¬ y < y := by omega
                clear hv hy hyd hzd
                go_wp2_with fail
                go_quiet (fail)
                go_wp2_with fail
                go_quiet (fail)
                go_wp2_with fail
                go_quiet (fail)
                go_wp2_with fail
                go_roundw
                case rel => exact ⟨k + 1, _, by omega, by go_num, rfl⟩
                case measure => simp [intOf]; omega
            · have hkp : k < p := by have := NM.out; omega
              obtain ⟨z, hz, hzd, z0⟩ := UG.out k hkp
              rw [hzd, ZN.out k hkq, Int.max_eq_right z0] at hv
              have tq : ¬ (k : Int) < (q : Int) := by omega
              have dq : decide ((k : Int) < (q : Int)) = false := decide_eq_false tq
              have tp : (k : Int) < (p : Int) := by omega
              have dp : decide ((k : Int) < (p : Int)) = true := decide_eq_true tp
              obtain ⟨b3, o3, e3, _, h3⟩ := U.out.get (k := k) (by rw [ints_len, HLU.out]; exact hkp)
              obtain ⟨rfl, rfl⟩ : gU = b3 ∧ 0 = o3 := by cases e3; exact ⟨rfl, rfl⟩
              have c3 : wo.cell? ⟨gU, k, none⟩ = some (.int .i64 z) := by have := h3 _ _ (Fw8.ints_at hz); rw [Nat.zero_add] at this; exact this
              clear h3 e3
              obtain ⟨b1, o1, e1, _, h1⟩ := X.out.get (k := k) (by rw [ints_len, HHL.out]; exact hlt)
              obtain ⟨rfl, rfl⟩ : gX = b1 ∧ 0 = o1 := by cases e1; exact ⟨rfl, rfl⟩
              have c1 : wo.cell? ⟨gX, k, none⟩ = some (.int .i64 z) := by have := h1 _ _ (Fw8.ints_at hv); rw [Nat.zero_add] at this; exact this
              clear h1 e1
              have e5 : (z == z) = true := by simp
              have e6 : decide (z < z) = false := by simp
              have e7 : ¬ z < z := by omega
              clear hv hz hzd
              go_wp2_with fail
              go_quiet (fail)
              go_wp2_with fail
              go_quiet (fail)
              go_wp2_with fail
              go_quiet (fail)
              go_wp2_with fail
              go_roundw
              case rel => exact ⟨k + 1, _, by omega, by go_num, rfl⟩
              case measure => simp [intOf]; omega
          · have tN : ¬ (k : Int) < (N : Int) := by omega
            have dN : decide ((k : Int) < (N : Int)) = false := decide_eq_false tN
            obtain ⟨wp, hwp⟩ : ∃ wp, World.drewN wo m9 = wp := ⟨_, rfl⟩
            have hb := below_drewN (Below.refl wo.heap.size wo) m9
            rw [hwp] at hb ⊢
            clear hwp
            have BB2 := Lib.hid (BB.out.trans (hb.mono BB.out.size))
            have Zn := Lib.hid ((Z.out.below hb).more hb.size)
            have Un := Lib.hid ((U.out.below hb).more hb.size)
            have Xn := Lib.hid ((X.out.below hb).more hb.size)
            clear hb BB Z U X
            have BB := BB2
            clear BB2
            have Z := Zn
            clear Zn
            have U := Un
            clear Un
            have X := Xn
            clear Xn
            go_wp2_with fail
            refine (CC1.out _ _ _ X.out).mono ?_
            rintro e wx ⟨g1, c1, rfl, ho, hb⟩
            have P1 := Lib.hid (Rd.own ho)
            have BB2 := Lib.hid (BB.out.trans (hb.mono BB.out.size))
            clear ho
            have Zn := Lib.hid ((Z.out.below hb).more hb.size)
            have Un := Lib.hid ((U.out.below hb).more hb.size)
            clear hb BB Z U
            have BB := BB2
            clear BB2
            have Z := Zn
            clear Zn
            have U := Un
            clear Un
            go_wp2_with fail
            refine (CC2.out _ Z.out).mono ?_
            rintro e wx ⟨g2, c2, rfl, ho, hb⟩
            have P2 := Lib.hid (Rd.own ho)
            have BB2 := Lib.hid (BB.out.trans (hb.mono BB.out.size))
            clear ho
            have Un := Lib.hid ((U.out.below hb).more hb.size)
            have P1n := Lib.hid ((P1.out.below hb).more hb.size)
            clear hb BB U P1
            have BB := BB2
            clear BB2
            have U := Un
            clear Un
            have P1 := P1n
            clear P1n
            go_wp2_with fail
            refine (CC3.out _ U.out).mono ?_
            rintro e wx ⟨g3, c3, rfl, ho, hb⟩
            have P3 := Lib.hid (Rd.own ho)
            have BB2 := Lib.hid (BB.out.trans (hb.mono BB.out.size))
            clear ho
            have P1n := Lib.hid ((P1.out.below hb).more hb.size)
            have P2n := Lib.hid ((P2.out.below hb).more hb.size)
            clear hb BB P1 P2
            have BB := BB2
            clear BB2
            have P1 := P1n
            clear P1n
            have P2 := P2n
            clear P2n
            go_wp2_with fail
            refine (CHC.out _ _ _ _ _ P2.out P3.out).mono ?_
            rintro e wx ⟨g4, c4, rfl, ho, hb⟩
            have P4 := Lib.hid (Rd.own ho)
            have BB2 := Lib.hid (BB.out.trans (hb.mono BB.out.size))
            clear ho
            have P1n := Lib.hid ((P1.out.below hb).more hb.size)
            clear hb BB P1
            have BB := BB2
            clear BB2
            have P1 := P1n
            clear P1n
            go_wp2_with fail
            refine (Le5.intsL _ _ N _ _ C _ _ HCL.out (by omega) P1.out P4.out).mono ?_
            rintro e wz ⟨rfl, m9, rfl⟩
            go_wp2_with fail
            go_ret
            exact ⟨rfl, below_drewN BB.out _⟩
  · have hd : decide (4096 < n) = true := decide_eq_true (by omega)
    clear hn hm hr
    go_enter Try.func6, Try.ntmps6
    go_wp2_with (go_at_call 8; go_enter Try.func8, Try.ntmps8)
    go_returns
    exact ⟨rfl, Below.refl _ _⟩

set_option maxRecDepth 100000 in
theorem lifted (os : Os) (started : os.Started) (H : Type) (enc : TypeId × Value → H) :
    ReturnsInHanded {} Try.checked os 6 .any (Rows.fnHigherSpec.pre6 enc Try.prog Try.f6 Rows.fnHigherRow.domain false) (Rows.fnHigherSpec.post enc Try.prog Try.f6 false true false false) := by
  refine returnsInHanded_of_change (C := Try.checked) own started (by kernel_rfl) Try.func6
    (ChangeSpec.witness6 (enc := enc) (C := Try.checked) false ⟨#[], #[.slice none 0 0], []⟩ 8 (by kernel_rfl) (by kernel_rfl) (by kernel_rfl) (by kernel_rfl)) ?_
  intro W base args ds gs before hval0 hW hcnd hsz
  have hval : ∀ (j : Nat) t v, Try.f6.params[j]? = some t → args[j]? = some v → Value.okWide Try.prog W .any base t v := hval0
  have hW' := hW
  obtain ⟨p, q, hA0, hV, rfl, hfz, hnd⟩ := hW
  have hA1 := hA0
  have hA : DataW.TrodAll enc Try.prog W 0 (fun _ => true) true Try.f6.params.toList args.toList ds p := hA0
  rw [Try.params6] at hA hval
  obtain ⟨v0, vs0, d0, ds0, p0, q0, hargs, rfl, rfl, h0, r0⟩ := trodAll_cons hA
  obtain ⟨rfl, rfl, rfl⟩ := trodAll_nil r0
  obtain rfl : args = #[v0] := by cases args; simp_all
  obtain ⟨rfl, rfl⟩ := trodVars_none hV
  obtain ⟨A0, n0, c0, a0, rfl, l0, m0, g0⟩ := RampFn.take_bytes Try.underlying22 Try.underlying5 (by kernel_rfl) (hval 0 22 v0 rfl rfl) h0
  clear hA0 hval0
  rw [List.append_nil] at hW'
  refine (walk A0 n0 c0 a0 l0 m0 W g0).mono fun e W' ⟨he, hb⟩ => ?_
  subst he
  exact ⟨_, rfl, post_law rfl hW' hA1 laidOut (by rw [Try.params6]; exact of_decide_eq_true (by kernel_rfl)) 4 (by kernel_rfl) Try.underlying4 rfl hb⟩

theorem over : Rows.fnHigherRow.holds Try.pinned (OpenSpec.ofChange Rows.fnHigherSpec) :=
  OpenClaim.holds_of_wide 6 Try.f6 rfl rfl rfl rfl rfl rfl rfl ⟨rfl, rfl, rfl, rfl, rfl⟩ rfl rfl rfl rfl rfl (by kernel_rfl) Try.func6 (by kernel_rfl)
    (of_decide_eq_true (by kernel_rfl)) (by unfold Func.isWrapper; first | (rw [if_pos (by decide +kernel)]; kernel_rfl) | (rw [if_neg (by decide +kernel)]; exact ⟨rfl, rfl⟩))
    (fun os started H enc _ => lifted os started H enc)

/-- The statement. -/
theorem proved : Rows.FnHigherSaid :=
  over
#print axioms proved
end Go.Proofs.Ytmbiomekbinplaa.fnHigher
