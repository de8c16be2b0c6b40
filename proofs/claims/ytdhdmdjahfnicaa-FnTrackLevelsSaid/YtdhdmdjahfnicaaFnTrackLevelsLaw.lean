/- The law FnTrackLevels holds at every input. The step from the walk to the row follows the guide's own template. -/
import Derived.Test.YtdhdmdjahfnicaaMem
import Derived.Test.YtdhdmdjahfnicaaDr7
import Derived.Test.YtdhdmdjahfnicaaFe
import Derived.Test.YtdhdmdjahfnicaaLi7
import Derived.Test.YtdhdmdjahfnicaaTi7
import Derived.Test.YtdhdmdjahfnicaaSi7
import Derived.Test.YtdhdmdjahfnicaaTo8
import Derived.Test.YtdhdmdjahfnicaaTi8
import Derived.Test.YtdhdmdjahfnicaaWn8
import Derived.Test.YtdhdmdjahfnicaaLe5
import Derived.Test.YtdhdmdjahfnicaaTakeC
import Derived.Deep.RegionHeld3
import Derived.BigQuiet
namespace Go.Proofs.Ytdhdmdjahfnicaa.fnTrackLevels
open Go.ChangeShapes Go.WideShapes Go.ChangeAt Go.RowKit Go.WideMaps Go.WideElems Go.Proofs.Ytdhdmdjahfnicaa.Mem
open Go.ChangeMaps (open_string shut_string)
set_option linter.unusedVariables false
set_option linter.unusedSimpArgs false

theorem own : ownKnob Try.prog.godebug = none := by kernel_rfl
theorem laidOut : laidOutB Try.prog = true := by kernel_rfl

open Go.Proofs.Ytdhdmdjahfnicaa.Rw Go.Proofs.Ytdhdmdjahfnicaa.P2 Go.Proofs.Ytdhdmdjahfnicaa.Cd Go.Proofs.Ytdhdmdjahfnicaa.Cv Go.Proofs.Ytdhdmdjahfnicaa.Cl Go.Proofs.Ytdhdmdjahfnicaa.Cs Go.Proofs.Ytdhdmdjahfnicaa.Sd Go.Proofs.Ytdhdmdjahfnicaa.Oc Go.Proofs.Ytdhdmdjahfnicaa.Cr Go.Proofs.Ytdhdmdjahfnicaa.Ld Go.Proofs.Ytdhdmdjahfnicaa.Cq Go.Proofs.Ytdhdmdjahfnicaa.Ed Go.Proofs.Ytdhdmdjahfnicaa.Td7 Go.Proofs.Ytdhdmdjahfnicaa.Fe Go.Proofs.Ytdhdmdjahfnicaa.Dr7 Go.Proofs.Ytdhdmdjahfnicaa.Li7 Go.Proofs.Ytdhdmdjahfnicaa.Ti7 Go.Proofs.Ytdhdmdjahfnicaa.Si7 Go.Proofs.Ytdhdmdjahfnicaa.To8
open Go.Proofs.Ytdhdmdjahfnicaa.Tk (tk okT tk_iff okT_get wnG wnL wnG_iff wnL_yes)
open Go.Proofs.Ytdhdmdjahfnicaa.Ti8 (trkI)
open Go.Proofs.Ytdhdmdjahfnicaa.Wn8 (windowI)
open Go.Proofs.Ytdhdmdjahfnicaa.Rw (owns_below owns_grown owns_base)

theorem lev_in {zs : List C} (hs : score zs = true) (s : ByteArray) (t : Int) : 0 ≤ levV zs s t ∧ levV zs s t ≤ 32 := by
  unfold levV levP
  rw [only_yes hs]
  have h := reach_sane t (pick zs [s]) (pick_all (score_all hs))
  exact level_in _ _ h.1.1 h.1.2 h.2.1 h.2.2
theorem trN_tk {zs : List C} (hs : score zs = true) (s : ByteArray) {k : Nat} (hk : k ≤ 64) : tk (trN zs s k) = true := by
  refine tk_iff.2 ⟨by rw [trN_len]; exact hk, fun z hz => ?_⟩
  unfold trN at hz
  obtain ⟨t, _, rfl⟩ := List.mem_map.1 hz
  exact lev_in hs s _
theorem trN_shift {zs ys : List C} {s : ByteArray} (h : ∀ t : Int, levV ys s (t + 6) = levV zs s t) : ((trN ys s 36).take 36).drop 6 = trN zs s 30 := by
  rw [List.take_of_length_le (by rw [trN_len]; exact Nat.le_refl _)]
  unfold trN
  rw [← List.map_drop]
  refine List.ext_getElem (by simp) fun i h1 h2 => ?_
  simp
  have := h (i : Int)
  rw [show ((6 : Int) + (i : Int)) = (i : Int) + 6 by omega]
  exact this

set_option maxHeartbeats 4000000 in
set_option maxRecDepth 100000 in
theorem walk (A : Option Addr) (n c : Nat) (bs : List UInt8) (hn : bs.length = n) (hm : n ≤ maxLen) (w : World) (hr : Rd w w.heap.size A (Draw.u8s bs)) :
    Calls Try.prog 3 #[.slice A n c] w fun e w' => e = .returned (.bool true) ∧ Below w.heap.size w w' := by
  have hu : undef = Value.tuple #[] := rfl
  by_cases hbig : (n : Int) ≤ 4096
  · have D := Lib.hid (drawZ w A n c bs hn (by omega) hr)
    clear hm
    go_enter Try.func3, Try.ntmps3
    go_wp2_with (go_at_call 13; go_enter Try.func13, Try.ntmps13)
    refine D.out.mono ?_
    rintro e wd0 ⟨zs, q, gZ, cZ, s, hl, hs, hns, rfl, hR, hB⟩
    have BB := Lib.hid hB
    have hcap := owns_cap hR
    have Z := Lib.hid (Rd.own hR)
    have hq : q ≤ 7 := by have := hs.2.1; omega
    have hqb : q ≤ 1048576 := by omega
    have hsz := hs.sizes
    have hsc := hs.1
    obtain ⟨l1, l2, l3⟩ := later_yes hsc (fun d hd => (hs.2.2 d hd).2.1) (show 0 ≤ (6 : Int) by omega) (by omega)
    obtain ⟨ys, hys⟩ : ∃ ys, zs.map (shC 6) = ys := ⟨_, rfl⟩
    have hyl : ys.length = q := by rw [← hys, List.length_map]; exact hl
    have hsh : ∀ t : Int, levV ys s (t + 6) = levV zs s t := fun t => by rw [← hys]; exact lev_shift hsc l3 (by omega) s
    rw [hys] at l2 l3
    obtain ⟨xs, hxs⟩ : ∃ xs, trN zs s 30 = xs := ⟨_, rfl⟩
    obtain ⟨us, hus⟩ : ∃ us, trN ys s 36 = us := ⟨_, rfl⟩
    have hxl : xs.length = 30 := by rw [← hxs]; exact trN_len _ _ _
    have hul : us.length = 36 := by rw [← hus]; exact trN_len _ _ _
    have hxt : tk xs = true := by rw [← hxs]; exact trN_tk hsc s (by omega)
    have hut : tk us = true := by rw [← hus]; exact trN_tk l3 s (by omega)
    have hwg : wnG us 6 36 = true := wnG_iff.2 ⟨hut, by omega, by omega, by rw [hul]; decide⟩
    have hwl : wnL us 6 36 = xs := by rw [wnL_yes hwg, ← hus, ← hxs]; exact trN_shift hsh
    have CX := Lib.hid (show ∀ (W : World) (h : Rd W W.heap.size (some ⟨gZ, 0, none⟩) (dls zs)), Calls Try.prog 15 #[.slice (some ⟨gZ, 0, none⟩) q cZ, .string s, .int .i64 30] W (fun e w' => ∃ g c, e = .returned (.slice (some ⟨g, 0, none⟩) 30 c) ∧ w'.ownsRow W.heap.size 3 1 (.slice (some ⟨g, 0, none⟩) 30 c) 30 (ints xs) ∧ Below W.heap.size W w') from fun W h => by
      have := trackI (some ⟨gZ, 0, none⟩) q cZ zs s ((30 : Nat) : Int) W hl hqb (wf64 (by omega) (by omega)) h
      rw [trV_yes hsc (by omega), hxs] at this
      unfold To8.RowI at this
      rw [hxl] at this
      exact this)
    have CY := Lib.hid (show ∀ (g c : Nat) (W : World) (h : Rd W W.heap.size (some ⟨g, 0, none⟩) (dls ys)), Calls Try.prog 15 #[.slice (some ⟨g, 0, none⟩) q c, .string s, .int .i64 36] W (fun e w' => ∃ g c, e = .returned (.slice (some ⟨g, 0, none⟩) 36 c) ∧ w'.ownsRow W.heap.size 3 1 (.slice (some ⟨g, 0, none⟩) 36 c) 36 (ints us) ∧ Below W.heap.size W w') from fun g c W h => by
      have := trackI (some ⟨g, 0, none⟩) q c ys s ((36 : Nat) : Int) W hyl hqb (wf64 (by omega) (by omega)) h
      rw [trV_yes l3 (by omega), hus] at this
      unfold To8.RowI at this
      rw [hul] at this
      exact this)
    have CT := Lib.hid (fun (g c : Nat) (W : World) (h : Rd W W.heap.size (some ⟨g, 0, none⟩) (ints xs)) => hxt ▸ trkI (some ⟨g, 0, none⟩) 30 c xs W.heap.size W hxl (by omega) h)
    have CW := Lib.hid (show ∀ (g c : Nat) (W : World) (h : Rd W W.heap.size (some ⟨g, 0, none⟩) (ints us)), Calls Try.prog 19 #[.slice (some ⟨g, 0, none⟩) 36 c, .int .i64 6, .int .i64 36] W (fun e w' => ∃ g c, e = .returned (.tuple #[.slice (some ⟨g, 0, none⟩) 30 c, .bool true]) ∧ w'.ownsRow W.heap.size 3 1 (.slice (some ⟨g, 0, none⟩) 30 c) 30 (ints xs) ∧ Below W.heap.size W w') from fun g c W h => by
      have := windowI (some ⟨g, 0, none⟩) 36 c us 6 36 W hul (by omega) h
      rw [hwl, hwg] at this
      unfold Fw8.RowP at this
      rw [hxl] at this
      exact this)
    have CM := Lib.hid (show ∀ (W : World) (h : Rd W W.heap.size (some ⟨gZ, 0, none⟩) (dls zs)), Calls Try.prog 18 #[.slice (some ⟨gZ, 0, none⟩) q cZ, .int .i64 6] W (fun e w' => ∃ g c, e = .returned (.tuple #[.slice (some ⟨g, 0, none⟩) q c, .bool true]) ∧ w'.ownsRow W.heap.size 47 4 (.slice (some ⟨g, 0, none⟩) q c) q (dls ys) ∧ Below W.heap.size W w') from fun W h => by
      have := laterI ⟨gZ, 0, none⟩ q cZ zs 6 W hl hqb (wf64 (by omega) (by omega)) h
      rw [l1, l2] at this
      unfold RowB at this
      rw [hyl] at this
      exact this)
    have CL := Lib.hid (fun (t : Nat) (h2 : t ≤ 200) (W : World) (h : Rd W W.heap.size (some ⟨gZ, 0, none⟩) (dls zs)) => levelI (some ⟨gZ, 0, none⟩) q cZ zs s t W hl hqb (wf64 (by omega) (by omega)) h)
    have HG := Lib.hid (fun (k : Nat) (hk : k < 30) => (hxs ▸ trN_get zs s hk : (ints xs)[k]? = some (.int .i64 (levV zs s (k : Int)))))
    have HXL := Lib.hid hxl
    clear D hbig hR hB hn hr hl hs hns hcap hsz hsc hys hyl hsh l1 l2 l3 hxs hus hxl hul hxt hut hwg hwl
    go_wp2_with fail
    refine (CX.out _ Z.out).mono ?_
    rintro e wx ⟨gX, cX, rfl, ho, hb⟩
    have X := Lib.hid (Rd.own ho)
    have BB2 := Lib.hid (BB.out.trans (hb.mono BB.out.size))
    have Zn := Lib.hid ((Z.out.below hb).more hb.size)
    clear hb ho BB Z
    have BB := BB2
    clear BB2
    have Z := Zn
    clear Zn
    go_wp2_with fail
    refine (CT.out _ _ _ X.out).mono ?_
    rintro e wy ⟨rfl, rfl⟩
    go_wp2_with fail
    go_loopw [6] (fun i wr => ∃ k : Nat, k ≤ 30 ∧ i = .int .i64 k ∧ Hid (Rd wr wr.heap.size (some ⟨gZ, 0, none⟩) (dls zs)) ∧ Hid (Rd wr wr.heap.size (some ⟨gX, 0, none⟩) (ints xs)) ∧ Hid (Below w.heap.size w wr)) (fun i _ => 30 - (intOf i).toNat)
    case atStart => exact ⟨0, by omega, rfl, Z, X, BB⟩
    case round =>
      clear Z X BB
      obtain ⟨k, hk, rfl, Z, X, BB⟩ := hrel
      by_cases hlt : k < 30
      · have C1 := CL.out k (by omega)
        have H1 := HG.out k hlt
        obtain ⟨v, hv⟩ : ∃ v, levV zs s k = v := ⟨_, rfl⟩
        rw [hv] at C1 H1
        have C1 := Lib.hid C1
        obtain ⟨b, o, eA, hbl, hcell⟩ := X.out.get (k := k) (by rw [ints_len, HXL.out]; exact hlt)
        obtain ⟨rfl, rfl⟩ : gX = b ∧ 0 = o := by cases eA; exact ⟨rfl, rfl⟩
        have c1 : wr.cell? ⟨gX, k, none⟩ = some (.int .i64 v) := by have := hcell _ _ H1; rw [Nat.zero_add] at this; exact this
        have d5 : (k : Int) < 30 := by omega
        have d3 : decide ((k : Int) < 30) = true := decide_eq_true (by omega)
        have hvv : (v == v) = true := by simp
        have hvn : (v != v) = false := by simp
        clear hv H1 hcell hbl eA
        go_wp2_with fail
        refine wp_region_noPanic ?_
        refine wp_region_held_drew (S := (fun w' => w'.cell? ⟨gX, k, none⟩ = some (.int .i64 v) ∧ Below wr.heap.size wr w')) (by kernel_rfl) ?_ (fun hH => ?_)
        · exact ⟨c1, by go_grown⟩
        refine wpAnyH_take (i := 0) (oi := { dst := some 34, op := _, type := _, pos := _, after := _, guard := _ }) (v := ?_) rfl (by kernel_rfl) (by kernel_rfl) (by kernel_rfl) (fun _ _ _ h => h) (Or.inl ⟨by rfl, ?_⟩) hH ?_
        rotate_left 1
        · intro W hSw
          (try dsimp only at hSw)
          go_simp
          (try with_reducible rfl)
        try simp only [Act.put, List.setIfInBounds_toArray, List.set_cons_zero, List.set_cons_succ]
        refine wpAnyH_take (i := 1) (oi := { dst := some 35, op := _, type := _, pos := _, after := _, guard := _ }) (v := ?_) rfl (by kernel_rfl) (by kernel_rfl) (by kernel_rfl) (fun _ _ _ h => h) (Or.inl ⟨by rfl, ?_⟩) hH ?_
        rotate_left 1
        · intro W hSw
          (try dsimp only at hSw)
          go_simp
          (try with_reducible rfl)
        try simp only [Act.put, List.setIfInBounds_toArray, List.set_cons_zero, List.set_cons_succ]
        refine wpAnyH_take (i := 2) (oi := { dst := some 36, op := _, type := _, pos := _, after := _, guard := _ }) (v := ?_) rfl (by kernel_rfl) (by kernel_rfl) (by kernel_rfl) (fun _ _ _ h => h) (Or.inl ⟨by rfl, ?_⟩) hH ?_
        rotate_left 1
        · intro W hSw
          (try dsimp only at hSw)
          go_simp
          (try with_reducible rfl)
        try simp only [Act.put, List.setIfInBounds_toArray, List.set_cons_zero, List.set_cons_succ]
        refine wpAnyH_take (i := 3) (oi := { dst := some 37, op := _, type := _, pos := _, after := _, guard := _ }) (v := ?_) rfl (by kernel_rfl) (by kernel_rfl) (by kernel_rfl) (fun _ _ _ h => h) (Or.inl ⟨by rfl, ?_⟩) hH ?_
        rotate_left 1
        · intro W hSw
          (try dsimp only at hSw)
          go_simp
          (try with_reducible rfl)
        try simp only [Act.put, List.setIfInBounds_toArray, List.set_cons_zero, List.set_cons_succ]
        refine wpAnyH_take (i := 4) (oi := { dst := some 38, op := _, type := _, pos := _, after := _, guard := _ }) (v := ?_) rfl (by kernel_rfl) (by kernel_rfl) (by kernel_rfl) (fun _ _ _ h => h) (Or.inl ⟨by rfl, ?_⟩) hH ?_
        rotate_left 1
        · intro W hSw
          (try dsimp only at hSw)
          go_simp
          (try with_reducible rfl)
        try simp only [Act.put, List.setIfInBounds_toArray, List.set_cons_zero, List.set_cons_succ]
        refine wpAnyH_take (i := 5) (oi := { dst := some 39, op := _, type := _, pos := _, after := _, guard := _ }) (v := ?_) rfl (by kernel_rfl) (by kernel_rfl) (by kernel_rfl) (fun _ _ _ h => h) (Or.inl ⟨by rfl, ?_⟩) hH ?_
        rotate_left 1
        · intro W hSw
          (try dsimp only at hSw)
          go_simp
          (try with_reducible rfl)
        try simp only [Act.put, List.setIfInBounds_toArray, List.set_cons_zero, List.set_cons_succ]
        refine wpAnyH_take (i := 6) (oi := { dst := some 40, op := _, type := _, pos := _, after := _, guard := _ }) (v := ?_) rfl (by kernel_rfl) (by kernel_rfl) (by kernel_rfl) (fun _ _ _ h => h) (Or.inl ⟨by rfl, ?_⟩) hH ?_
        rotate_left 1
        · intro W hSw
          (try dsimp only at hSw)
          go_simp
          (try with_reducible rfl)
        try simp only [Act.put, List.setIfInBounds_toArray, List.set_cons_zero, List.set_cons_succ]
        refine wpAnyH_ready (rs := [7]) (by kernel_rfl) (by simp) (AllReadyH.cons rfl (fun K hK => ?_) AllReadyH.nil)
        go_simp
        go_at_call 17; ((with_reducible refine (C1.out _ ((Z.out.below hH.2).more hH.2.size)).mono ?_); rintro e r1 ⟨rfl, hb9⟩); go_wp2_with fail
        refine hK.out _ _ ?_ (fun hG => ?_)
        · exact ⟨cell_below hb9 hH.1, hH.2.trans (hb9.mono hH.2.size)⟩
        replace hH := hG
        clear hK K hG
        try simp only [Act.put, List.setIfInBounds_toArray, List.set_cons_zero, List.set_cons_succ]
        refine wpAnyH_take (i := 8) (oi := { dst := some 42, op := _, type := _, pos := _, after := _, guard := _ }) (v := ?_) rfl (by kernel_rfl) (by kernel_rfl) (by kernel_rfl) (fun _ _ _ h => h) (Or.inl ⟨by rfl, ?_⟩) hH ?_
        rotate_left 1
        · intro W hSw
          (try dsimp only at hSw)
          go_simp
          (try with_reducible rfl)
        try simp only [Act.put, List.setIfInBounds_toArray, List.set_cons_zero, List.set_cons_succ]
        refine wpAnyH_done (by kernel_rfl) ?_ _
        refine NoPanic.normal ?_
        obtain ⟨_, BR⟩ := hH
        have Zn := Lib.hid ((Z.out.below BR).more BR.size)
        have Xn := Lib.hid ((X.out.below BR).more BR.size)
        have Bn := Lib.hid (BB.out.trans (BR.mono BB.out.size))
        clear BR c1 C1 hb9
        go_wp2_with fail
        go_roundw
        case rel => exact ⟨k + 1, by omega, by go_num, Zn, Xn, Bn⟩
        case measure => simp [intOf]; omega
      · have d3 : decide ((k : Int) < 30) = false := decide_eq_false (by omega)
        go_wp2_with fail
        refine (CM.out _ Z.out).mono ?_
        rintro e wx ⟨gY, cY, rfl, ho, hb⟩
        have Y := Lib.hid (Rd.own ho)
        have BB2 := Lib.hid (BB.out.trans (hb.mono BB.out.size))
        have Zn := Lib.hid ((Z.out.below hb).more hb.size)
        have Xn := Lib.hid ((X.out.below hb).more hb.size)
        clear hb ho BB Z X
        have BB := BB2
        clear BB2
        have Z := Zn
        clear Zn
        have X := Xn
        clear Xn
        go_wp2_with fail
        refine (CY.out _ _ _ Y.out).mono ?_
        rintro e wx ⟨gU, cU, rfl, ho, hb⟩
        have U := Lib.hid (Rd.own ho)
        have BB2 := Lib.hid (BB.out.trans (hb.mono BB.out.size))
        have Zn := Lib.hid ((Z.out.below hb).more hb.size)
        have Xn := Lib.hid ((X.out.below hb).more hb.size)
        have Yn := Lib.hid ((Y.out.below hb).more hb.size)
        clear hb ho BB Z X Y
        have BB := BB2
        clear BB2
        have Z := Zn
        clear Zn
        have X := Xn
        clear Xn
        have Y := Yn
        clear Yn
        go_wp2_with fail
        refine (CW.out _ _ _ U.out).mono ?_
        rintro e wx ⟨gV, cV, rfl, ho, hb⟩
        have V := Lib.hid (Rd.own ho)
        have BB2 := Lib.hid (BB.out.trans (hb.mono BB.out.size))
        have Zn := Lib.hid ((Z.out.below hb).more hb.size)
        have Xn := Lib.hid ((X.out.below hb).more hb.size)
        have Yn := Lib.hid ((Y.out.below hb).more hb.size)
        have Un := Lib.hid ((U.out.below hb).more hb.size)
        clear hb ho BB Z X Y U
        have BB := BB2
        clear BB2
        have Z := Zn
        clear Zn
        have X := Xn
        clear Xn
        have Y := Yn
        clear Yn
        have U := Un
        clear Un
        go_wp2_with fail
        refine (Le5.intsL _ _ 30 _ _ xs _ _ HXL.out (by omega) V.out X.out).mono ?_
        rintro e wz ⟨rfl, m9, rfl⟩
        go_wp2_with fail
        go_ret
        exact ⟨rfl, below_drewN BB.out _⟩
  · have hd : decide (4096 < n) = true := decide_eq_true (by omega)
    clear hn hm hr
    go_enter Try.func3, Try.ntmps3
    go_wp2_with (go_at_call 13; go_enter Try.func13, Try.ntmps13)
    go_returns
    exact ⟨rfl, Below.refl _ _⟩

set_option maxRecDepth 100000 in
theorem lifted (os : Os) (started : os.Started) (H : Type) (enc : TypeId × Value → H) :
    ReturnsInHanded {} Try.checked os 3 .any (Rows.fnTrackLevelsSpec.pre6 enc Try.prog Try.f3 Rows.fnTrackLevelsRow.domain false) (Rows.fnTrackLevelsSpec.post enc Try.prog Try.f3 false true false false) := by
  refine returnsInHanded_of_change (C := Try.checked) own started (by kernel_rfl) Try.func3
    (ChangeSpec.witness6 (enc := enc) (C := Try.checked) false ⟨#[], #[.slice none 0 0], []⟩ 8 (by kernel_rfl) (by kernel_rfl) (by kernel_rfl) (by kernel_rfl)) ?_
  intro W base args ds gs before hval0 hW hcnd hsz
  have hval : ∀ (j : Nat) t v, Try.f3.params[j]? = some t → args[j]? = some v → Value.okWide Try.prog W .any base t v := hval0
  have hW' := hW
  obtain ⟨p, q, hA0, hV, rfl, hfz, hnd⟩ := hW
  have hA1 := hA0
  have hA : DataW.TrodAll enc Try.prog W 0 (fun _ => true) true Try.f3.params.toList args.toList ds p := hA0
  rw [Try.params3] at hA hval
  obtain ⟨v0, vs0, d0, ds0, p0, q0, hargs, rfl, rfl, h0, r0⟩ := trodAll_cons hA
  obtain ⟨rfl, rfl, rfl⟩ := trodAll_nil r0
  obtain rfl : args = #[v0] := by cases args; simp_all
  obtain ⟨rfl, rfl⟩ := trodVars_none hV
  obtain ⟨A0, n0, c0, a0, rfl, l0, m0, g0⟩ := RampFn.take_bytes Try.underlying22 Try.underlying5 (by kernel_rfl) (hval 0 22 v0 rfl rfl) h0
  clear hA0 hval0
  rw [List.append_nil] at hW'
  refine (walk A0 n0 c0 a0 l0 m0 W g0).mono fun e W' ⟨he, hb⟩ => ?_
  subst he
  exact ⟨_, rfl, post_law rfl hW' hA1 laidOut (by rw [Try.params3]; exact of_decide_eq_true (by kernel_rfl)) 4 (by kernel_rfl) Try.underlying4 rfl hb⟩

theorem over : Rows.fnTrackLevelsRow.holds Try.pinned (OpenSpec.ofChange Rows.fnTrackLevelsSpec) :=
  OpenClaim.holds_of_wide 3 Try.f3 rfl rfl rfl rfl rfl rfl rfl ⟨rfl, rfl, rfl, rfl, rfl⟩ rfl rfl rfl rfl rfl (by kernel_rfl) Try.func3 (by kernel_rfl)
    (of_decide_eq_true (by kernel_rfl)) (by unfold Func.isWrapper; first | (rw [if_pos (by decide +kernel)]; kernel_rfl) | (rw [if_neg (by decide +kernel)]; exact ⟨rfl, rfl⟩))
    (fun os started H enc _ => lifted os started H enc)

/-- The statement. -/
theorem proved : Rows.FnTrackLevelsSaid :=
  over
#print axioms proved
end Go.Proofs.Ytdhdmdjahfnicaa.fnTrackLevels
