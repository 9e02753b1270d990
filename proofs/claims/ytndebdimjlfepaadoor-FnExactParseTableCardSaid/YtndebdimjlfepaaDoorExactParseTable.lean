/-
  Proved: for every string, the law FnExactParseTable returns true (the project's ParseTable answers as its model and hands back blocks and rows of its own). No condition; the library's tables are tied to the program's text by the card.
-/
import Derived.Test.YtndebdimjlfepaaDoorRows
import Derived.Test.YtndebdimjlfepaaDoorMgA
import Derived.Test.YtndebdimjlfepaaDoorShelf
import Derived.Test.YtndebdimjlfepaaDoorPrSpec
import Derived.Test.YtndebdimjlfepaaDoorMaxKit
import Derived.Test.YtndebdimjlfepaaDoorRwsOwn
import Derived.Test.YtndebdimjlfepaaDoorArSpec
import Derived.Test.YtndebdimjlfepaaDoorEqRows
import Derived.Test.YtndebdimjlfepaaDoorFdSpec
import Derived.Test.YtndebdimjlfepaaDoorBkPlain
import Derived.Test.YtndebdimjlfepaaDoorBkLaw
import Derived.Test.YtndebdimjlfepaaDoorBfSpec
import Derived.Test.YtndebdimjlfepaaDoorRwsApp
import Derived.Test.YtndebdimjlfepaaDoorPbPlain
import Derived.Test.YtndebdimjlfepaaDoorPsPlain
import Derived.Test.YtndebdimjlfepaaDoorRep
import Derived.Test.YtndebdimjlfepaaDoorRwRep
import Derived.Test.YtndebdimjlfepaaDoorMkRows
import Derived.Test.YtndebdimjlfepaaDoorRwSrc
import Derived.Test.YtndebdimjlfepaaDoorKo
import Derived.Test.YtndebdimjlfepaaDoorPbSpec
import Derived.Test.YtndebdimjlfepaaDoorInv
import Derived.Test.YtndebdimjlfepaaDoorBkOwn
import Derived.Test.YtndebdimjlfepaaDoorBkMark
import Derived.Test.YtndebdimjlfepaaDoorRvImpl
import Derived.Test.YtndebdimjlfepaaDoorArImpl
import Derived.Test.YtndebdimjlfepaaDoorBvImpl
import Derived.Test.YtndebdimjlfepaaDoorJlImpl
import Derived.Test.YtndebdimjlfepaaDoorSpImpl
import Derived.Test.YtndebdimjlfepaaDoorPaRow
import Derived.Test.YtndebdimjlfepaaDoorPbImpl
import Derived.Test.YtndebdimjlfepaaDoorTbRep
import Derived.Test.YtndebdimjlfepaaDoorTbLaw
import Derived.Test.YtndebdimjlfepaaDoorTbFind
import Derived.Test.YtndebdimjlfepaaDoorTtPlain
import Derived.Test.YtndebdimjlfepaaDoorTpPlain
import Derived.Test.YtndebdimjlfepaaDoorMpPlain
import Derived.Test.YtndebdimjlfepaaDoorAbImpl
import Derived.Test.YtndebdimjlfepaaDoorRpImpl
import Derived.Test.YtndebdimjlfepaaDoorAuImpl
import Derived.Test.YtndebdimjlfepaaDoorTvSpec
import Derived.Test.YtndebdimjlfepaaDoorTvImpl
import Derived.Test.YtndebdimjlfepaaDoorFtSpec
import Derived.Test.YtndebdimjlfepaaDoorBkApp
import Derived.Test.YtndebdimjlfepaaDoorPaBlk
import Derived.Test.YtndebdimjlfepaaDoorPtSpec
import Derived.Test.YtndebdimjlfepaaDoorPtImpl
import Derived.Test.YtndebdimjlfepaaDoorTmMark
import Derived.WalkKit
import Derived.ChangeOld
import Derived.Below
import Derived.ProofKit
import Derived.LaidMore
import Derived.Shelf.Vars
import Derived.Lay
import Derived.Stop.Joined
import Derived.SevenTiedAt
import Derived.Test.YtndebdimjlfepaaDoorTie
import Derived.Test.YtndebdimjlfepaaDoorCards
import Derived.OpenShut
import Derived.ShutString
namespace Go.Proofs.YtndebdimjlfepaaDoor.fnExactParseTable
open Go.ChangeShapes Go.WideShapes Go.ChangeAt Go.RowKit
open Go.ChangeMaps (open_string shut_string)
set_option linter.unusedVariables false      -- a walk need not use every 'w<i>' (that an integer argument fits its kind)

theorem own : ownKnob Tryd.prog.godebug = none := by kernel_rfl

/-! ### STEP 1: THE WALK: the Go text returns true. 'Below w.heap.size w w'': the world has at most new blocks (Derived/RowKit3.lean). Part the cases AHEAD of 'go_enter' where a test parts the walk; take each callee by a contract of your own. -/
theorem door_met (os : Os) (args : Array Value) : laidMetH Tryd.prog Rows.fnExactParseTableRow.laid ((World.laidAll Tryd.prog os Rows.fnExactParseTableRow.laid).forCall (fun _ _ => 0) ⟨#[], args, []⟩).memory := by
  rw [MakeChecks.laidMetH_plain _ _ _ (by kernel_rfl)]
  exact laidMet_laidAll _ (by kernel_rfl) (by kernel_rfl)

set_option maxRecDepth 100000 in
set_option maxHeartbeats 8000000 in
theorem walk (a0 : ByteArray) (w0 : a0.size ≤ maxLen) (w : World) (hL : laidMetH Tryd.prog Rows.fnExactParseTableRow.laid w) (hS : w.ShapedOpen Tryd.prog) :
    Calls Tryd.prog 8 #[.string a0] w fun e w' => e = .returned (.bool true) ∧ Below w.heap.size w w' := by
  have ht0 : PowTab w := powTab_of (by rw [MakeChecks.laidMetH_plain _ _ _ (by kernel_rfl)] at hL; exact hL)
  have HT : Hid (PowTab w) := ht0
  have HM : Hid (MaxCell w) := cell_of_shapedOpen_int hS (of_decide_eq_true (by kernel_rfl)) (zero := #[.int .i64 0]) (t := 3) (by kernel_rfl) rfl (by kernel_rfl) (by kernel_rfl) Tryd.underlying3
  have HLT : Hid (0 < w.heap.size) := (show _ < _ by obtain ⟨m, hm⟩ := HM.out; exact World.block_lt_of_cell? w _ hm)
  clear ht0 hL hS
  by_cases hbig : 1048576 < a0.size
  · go_enter Tryd.func8, Tryd.ntmps8
    go_wp2
    go_ret
    exact ⟨rfl, Below.refl _ _⟩
  · have hz : a0.size ≤ 1048576 := by omega
    have hzI : (a0.size : Int) ≤ 1048576 := by omega
    go_enter Tryd.func8, Tryd.ntmps8
    go_wp2_with fail
    refine (spec_pt _ _ hz).mono ?_
    rintro e w1 ⟨id, l, ok, v1, fp1, hP, rfl, hs, hf, _, hb⟩
    obtain ⟨ao1, c1, rfl⟩ := hs.val
    have I1 := ((Inv.of_kept (Kept.start w)).own (ownS blkTy (.slice ao1 l.length c1) l fp1) hb hs hf).alloc2 (.int .i64 id) (.slice ao1 l.length c1) 53 w1.heap.size rfl
    have HP := Lib.hid hP
    have hl6 : l.length ≤ 6 := hP.len
    have HR6 := Lib.hid (show ∀ k (hk : k < l.length), l[k].rows.length ≤ 1048576 from fun k hk => by have := hP.rows k hk; omega)
    have HME := Lib.hid (show markEnd 1 l ≤ 1099511627776 from by
      have := markEnd_le l 1 (fun b hb => by obtain ⟨k, hk, rfl⟩ := List.mem_iff_getElem.1 hb; exact HR6.out k hk)
      omega)
    have hmg := markEnd_ge l 1
    clear hP hs hf hb
    go_wp2_with fail
    refine (impl_pt _ _ hz (HT.out.below I1.below (Nat.le_refl _)) (HM.out.below I1.below HLT.out)).mono ?_
    rintro e w2 ⟨id2, l2, ok2, v2, fp2, hP, rfl, hs, hf, hnd2, hb⟩
    obtain ⟨rfl, rfl, rfl⟩ := PTbl_unique HP.out hP
    obtain ⟨ao2, c2, rfl⟩ := hs.val
    have I2 := (I1.own (ownS blkTy (.slice ao2 l.length c2) l fp2) hb hs hf).alloc2 (.int .i64 id) (.slice ao2 l.length c2) 53 w2.heap.size rfl
    clear hP hs hf hb I1
    have y0 := I2.get 0 rfl
    have y1 := I2.get 1 rfl
    have y2 := I2.get 2 rfl
    have y3 := I2.get 3 rfl
    go_wp2_with fail
    refine (law_eqTblO id _ _ _ _ _ _ l fp2 fp1 _ (by omega) HR6.out (I2.at 0 rfl) (I2.at 1 rfl)).mono ?_
    rintro e w3 ⟨rfl, hb⟩
    have I3 := I2.step hb
    clear hb I2 y0 y1 y2 y3
    have y0 := I3.get 0 rfl
    have y1 := I3.get 1 rfl
    go_wp2_with fail
    refine (law_markTblO id _ l fp2 1 _ (by omega) HME.out (by decide) (I3.at 0 rfl) hnd2).mono ?_
    rintro e w4 ⟨rfl, hc, hs⟩
    have I4 := Inv.chg (S1 := []) (S2 := [ownS blkTy (.slice ao1 l.length c1) l fp1]) (s := ownS blkTy (.slice ao2 l.length c2) l fp2) I3 (ownS blkTy (.slice ao2 l.length c2) (markBlks 1 l) fp2) rfl hc hs
    clear hc hs I3 y0 y1
    have y0 := I4.get 0 rfl
    have y1 := I4.get 1 rfl
    obtain ⟨mm, hmm⟩ : ∃ mm, mm = markEnd 1 l := ⟨_, rfl⟩
    rw [← hmm]
    have HMM := Lib.hid hmm
    have mm0 : ¬ mm < 0 := by omega
    have mmd : decide (mm < 0) = false := decide_eq_false mm0
    clear hmm
    go_wp2_with fail
    refine (law_heldTblO id _ l fp2 1 _ (by omega) HME.out (by decide) (I4.at 0 rfl)).mono ?_
    rintro e w5 ⟨rfl, hb⟩
    rw [← HMM.out]
    have I5 := I4.step hb
    clear hb I4 y0 y1
    go_wp2_with fail
    refine (impl_pt _ _ hz (HT.out.below I5.below (Nat.le_refl _)) (HM.out.below I5.below HLT.out)).mono ?_
    rintro e w6 ⟨id3, l3, ok3, v3, fp3, hP, rfl, hs, hf, _, hb⟩
    obtain ⟨rfl, rfl, rfl⟩ := PTbl_unique HP.out hP
    obtain ⟨ao3, c3, rfl⟩ := hs.val
    have I6 := (I5.own (ownS blkTy (.slice ao3 l.length c3) l fp3) hb hs hf).alloc2 (.int .i64 id) (.slice ao3 l.length c3) 53 w6.heap.size rfl
    clear hP hs hf hb I5
    have y0 := I6.get 0 rfl
    have y1 := I6.get 1 rfl
    have y2 := I6.get 4 rfl
    have y3 := I6.get 5 rfl
    go_wp2_with fail
    refine (law_eqTblO id _ _ _ _ _ _ l fp3 fp1 _ (by omega) HR6.out (I6.at 0 rfl) (I6.at 2 rfl)).mono ?_
    rintro e w7 ⟨rfl, hb⟩
    have I7 := I6.step hb
    clear hb I6 y0 y1 y2 y3
    have y0 := I7.get 2 rfl
    have y1 := I7.get 3 rfl
    go_wp2_with fail
    refine (law_heldTblO id _ l fp2 1 _ (by omega) HME.out (by decide) (I7.at 1 rfl)).mono ?_
    rintro e w8 ⟨rfl, hb⟩
    rw [← HMM.out]
    have I8 := I7.step hb
    clear hb I7 y0 y1
    go_wp2
    go_ret
    exact ⟨rfl, I8.below⟩

/-! ### THE ROW's STEP: WRITTEN OUT: LEAVE IT -/
set_option maxRecDepth 100000 in
theorem lifted (os : Os) (started : os.Started) (H : Type) (enc : TypeId × Value → H) :
    ReturnsInHanded {} Tryd.checked os 8 .any (fun w args => (Rows.fnExactParseTableSpec.pre enc Tryd.prog Tryd.f8 [] false w args ∧ laidMetH Tryd.prog Rows.fnExactParseTableRow.laid w) ∧ sizedMet enc Tryd.prog Tryd.f8 (OpenSpec.ofChange Rows.fnExactParseTableSpec) false w args)
      (Rows.fnExactParseTableSpec.post enc Tryd.prog Tryd.f8 false true false false) := by
  refine returnsInHanded_of_calls own started (by kernel_rfl) (ChangeSpec.witness_shaped (enc := enc) (C := Tryd.checked) (os := os) (X := fun w _ => laidMetH Tryd.prog Rows.fnExactParseTableRow.laid w) false (World.laidAll Tryd.prog os Rows.fnExactParseTableRow.laid) #[.string ByteArray.empty] 8 (World.laidAll_os _ _ _) (World.shaped_of_ZipB (by kernel_rfl) (by kernel_rfl)) (by kernel_rfl) (by kernel_rfl) (by kernel_rfl) (door_met os _)) ?_
  intro w0 tape i _ hS0 _ hok hpre _
  obtain ⟨_, _, _, fn', hfn', _, _, _, _, hval1⟩ := hok
  obtain rfl : fn' = Tryd.f8 := Option.some.inj (hfn'.symm.trans Tryd.func8)
  obtain ⟨⟨⟨ds, gs, before, hw0, _⟩, hL0⟩, _⟩ := hpre
  have hW0 := DataW.Whole.of_heap (w' := w0.forCall tape i) (by rfl) hw0
  have hL1 : laidMetH Tryd.prog Rows.fnExactParseTableRow.laid (w0.forCall tape i) := hL0.of_heap (by rfl)
  suffices main : Calls Tryd.checked.prog 8 i.args (w0.forCall tape i) (fun e W' => ∃ v, e = .returned v ∧ Rows.fnExactParseTableSpec.post enc Tryd.checked.prog Tryd.f8 false true false false (w0.forCall tape i) i.args v W') from
    main.mono fun e W' ⟨v, he, hp⟩ => by subst he; exact ChangeSpec.post_blind hp
  have hval0 : ∀ (j : Nat) t v, Tryd.f8.params[j]? = some t → i.args[j]? = some v → Value.okWide Tryd.prog (w0.forCall tape i) .any w0.heap.size t v := hval1
  obtain ⟨base, hbase⟩ : ∃ b, b = w0.heap.size := ⟨_, rfl⟩
  rw [← hbase] at hval0
  obtain ⟨W, hWW⟩ : ∃ W, W = w0.forCall tape i := ⟨_, rfl⟩
  rw [← hWW] at hval0 hW0 hL1 hS0
  rw [← hWW]
  obtain ⟨args, hAA⟩ : ∃ a, a = i.args := ⟨_, rfl⟩
  rw [← hAA] at hval0 hW0
  rw [← hAA]
  have hW : DataW.Whole enc Tryd.prog Tryd.f8.params.toList Rows.fnExactParseTableSpec.vars false W args.toList ds gs before := hW0
  have hL := hL1
  have hS : W.ShapedOpen Tryd.prog := hS0
  clear hWW hAA hbase hval1 hw0 hW0 hL0 hL1 hS0
  have hval : ∀ (j : Nat) t v, Tryd.f8.params[j]? = some t → args[j]? = some v → Value.okWide Tryd.prog W .any base t v := hval0
  have hW' := hW
  obtain ⟨p, q, hA0, hV, rfl, hfz, hnd⟩ := hW
  have hA : DataW.TrodAll enc Tryd.prog W 0 (fun _ => true) true Tryd.f8.params.toList args.toList ds p := hA0
  rw [Tryd.params8] at hA hval
  obtain ⟨v0, vs0, d0, ds0, p0, q0, hargs, rfl, rfl, h0, r0⟩ := trodAll_cons hA
  obtain ⟨rfl, rfl, rfl⟩ := trodAll_nil r0
  obtain rfl : args = #[v0] := by cases args; simp_all
  obtain ⟨rfl, rfl⟩ := trodVars_none hV
  obtain ⟨a0, rfl, rfl, rfl, w0⟩ := open_string Tryd.underlying9 (hval 0 9 v0 rfl rfl) h0
  clear hA0 hval0
  simp only [List.append_nil] at hW'
  refine (walk a0 w0 W hL hS).mono fun e W' ⟨he, hg⟩ => ?_
  subst he
  exact ⟨_, rfl, _, _, _, [], _, [], hW', (trodAll_cons_mk (shut_bool Tryd.underlying4 _) trodAll_mk0), (trodAll_cons_mk (shut_string Tryd.underlying9 w0) trodAll_mk0), rfl, hg.frame _, fun h => by cases h⟩

theorem over : Rows.fnExactParseTableRow.holds Tryd.pinned (OpenSpec.ofChange Rows.fnExactParseTableSpec) :=
  OpenClaim.holds_of_wide 8 Tryd.f8 rfl rfl rfl rfl rfl rfl rfl ⟨rfl, rfl, rfl, rfl, rfl⟩ rfl rfl rfl rfl rfl (by kernel_rfl) Tryd.func8 (MkF.closed_of (by kernel_rfl) (by kernel_rfl) (by kernel_rfl) (by kernel_rfl) (by kernel_rfl) (by kernel_rfl) (by kernel_rfl) (by kernel_rfl) (by kernel_rfl) (by kernel_rfl) (by kernel_rfl) (by kernel_rfl) (by kernel_rfl) (by kernel_rfl) (by kernel_rfl) (by kernel_rfl) (by kernel_rfl) (by kernel_rfl) (by kernel_rfl) (by kernel_rfl) (by kernel_rfl) (by kernel_rfl) (by kernel_rfl) (by kernel_rfl) (by kernel_rfl) MkF.mk_enter (MkF.lifts_eq MkF.mk_lifts rfl) (MkF.make_eq MkF.mk_make rfl) (by kernel_rfl) (by kernel_rfl) (by kernel_rfl) (by kernel_rfl))
    (of_decide_eq_true (by kernel_rfl)) (by unfold Func.isWrapper; first | (rw [if_pos (by decide +kernel)]; kernel_rfl) | (rw [if_neg (by decide +kernel)]; exact ⟨rfl, rfl⟩))
    (fun os started H enc _ => lifted os started H enc)

/-- ████ THE STATEMENT: THE TIED CARD ████ -/
theorem proved : Rows.FnExactParseTableCardSaid :=
  Claim7.holds_tied_plain_at .later [] [.data, .data, .data, .data, .pinned] true (true, "c294255d908f95f7d7cb0c4f733a50c97736118452588ade27ee96e3b1a80fb9") false
    over (fun _ h => by cases h) (by kernel_rfl) (fun _ h => by cases h) fnExactParseTable_row_tie rfl ⟨rfl, rfl⟩ (by kernel_rfl) rfl
    (fun f fn hf hfn => by
      obtain rfl : f = 8 := Option.some.inj ((show Tryd.prog.funcNamed "loop.example/g01927/laws.FnExactParseTable" = some 8 by kernel_rfl).symm.trans hf) |>.symm
      obtain rfl : fn = Tryd.f8 := (Option.some.inj (Tryd.func8.symm.trans hfn)).symm
      exact ⟨by kernel_rfl, fun j t ht => by
        rw [Tryd.params8] at ht
        have hm : t ∈ [9] := by simpa using Array.mem_of_getElem? ht
        have hall : ([9].all fun u => !Tryd.prog.wantsStandIn u) = true := by kernel_rfl
        exact (show Tryd.prog.wantsStandIn t = false by simpa using List.all_eq_true.1 hall t hm)⟩)
    (by kernel_rfl)
end Go.Proofs.YtndebdimjlfepaaDoor.fnExactParseTable
