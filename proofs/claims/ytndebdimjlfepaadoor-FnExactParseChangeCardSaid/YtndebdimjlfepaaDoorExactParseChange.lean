/-
  Proved: for every string, the law FnExactParseChange returns true (the project's ParseChange answers as its model) and leaves its argument as it was. No condition; the library's tables are tied to the program's text by the card.
-/
import Derived.Test.YtndebdimjlfepaaDoorRows
import Derived.Test.YtndebdimjlfepaaDoorMk
import Derived.Test.YtndebdimjlfepaaDoorShelf
import Derived.Test.YtndebdimjlfepaaDoorBytesOwn
import Derived.Test.YtndebdimjlfepaaDoorItoaKit
import Derived.Test.YtndebdimjlfepaaDoorPlain
import Derived.Test.YtndebdimjlfepaaDoorFiSpec
import Derived.Test.YtndebdimjlfepaaDoorL1In
import Derived.Test.YtndebdimjlfepaaDoorKeep
import Derived.Test.YtndebdimjlfepaaDoorRvSpec
import Derived.Test.YtndebdimjlfepaaDoorRwLaw
import Derived.Test.YtndebdimjlfepaaDoorPiSpec
import Derived.Test.YtndebdimjlfepaaDoorRfSpec
import Derived.Test.YtndebdimjlfepaaDoorStrOwn
import Derived.Test.YtndebdimjlfepaaDoorCutSpec
import Derived.Test.YtndebdimjlfepaaDoorPrPlain
import Derived.Test.YtndebdimjlfepaaDoorHeld5
import Derived.Test.YtndebdimjlfepaaDoorPrSpec
import Derived.Test.YtndebdimjlfepaaDoorMaxKit
import Derived.Test.YtndebdimjlfepaaDoorPrCut
import Derived.Test.YtndebdimjlfepaaDoorPiImpl
import Derived.Test.YtndebdimjlfepaaDoorRvImpl
import Derived.Test.YtndebdimjlfepaaDoorPrImpl
import Derived.Test.YtndebdimjlfepaaDoorIbImpl
import Derived.Test.YtndebdimjlfepaaDoorBkPlain
import Derived.Test.YtndebdimjlfepaaDoorChPlain
import Derived.Test.YtndebdimjlfepaaDoorIvcSpec
import Derived.Test.YtndebdimjlfepaaDoorChVal
import Derived.Test.YtndebdimjlfepaaDoorChEq
import Derived.Test.YtndebdimjlfepaaDoorIvcImpl
import Derived.Test.YtndebdimjlfepaaDoorPcPlain
import Derived.Test.YtndebdimjlfepaaDoorFmcSpec
import Derived.Test.YtndebdimjlfepaaDoorPcSpec
import Derived.Test.YtndebdimjlfepaaDoorPcImpl
import Derived.WalkKit
import Derived.ChangeOld
import Derived.Below
import Derived.ProofKit
import Derived.LaidMore
import Derived.Shelf.Vars
import Derived.Stop.Joined
import Derived.SevenTiedAt
import Derived.Test.YtndebdimjlfepaaDoorTie
import Derived.Test.YtndebdimjlfepaaDoorCards
import Derived.OpenShut
import Derived.ShutString
namespace Go.Proofs.YtndebdimjlfepaaDoor.fnExactParseChange
open Go.ChangeShapes Go.WideShapes Go.ChangeAt Go.RowKit
open Go.ChangeMaps (open_string shut_string)
set_option linter.unusedVariables false      -- a walk need not use every 'w<i>' (that an integer argument fits its kind)

theorem own : ownKnob Tryd.prog.godebug = none := by kernel_rfl

/-! ### STEP 1: THE WALK: the Go text returns true. 'Below w.heap.size w w'': the world has at most new blocks (Derived/RowKit3.lean). Part the cases AHEAD of 'go_enter' where a test parts the walk; take each callee by a contract of your own. -/
theorem door_met (os : Os) (args : Array Value) : laidMetH Tryd.prog Rows.fnExactParseChangeRow.laid ((World.doorLaid Tryd.prog 400 os).forCall (fun _ _ => 0) ⟨#[], args, []⟩).memory :=
  laidMetH_of_parts3 (fuel := 8) (laidMet_of_run' 8 (by kernel_rfl) (by kernel_rfl)) (by kernel_rfl) (by kernel_rfl)

set_option maxRecDepth 100000 in
set_option maxHeartbeats 8000000 in
theorem walk (a0 : ByteArray) (w0 : a0.size ≤ maxLen) (w : World) (hL : laidMetH Tryd.prog Rows.fnExactParseChangeRow.laid w) (hS : w.ShapedOpen Tryd.prog) :
    Calls Tryd.prog 9 #[.string a0] w fun e w' => e = .returned (.bool true) ∧ Below w.heap.size w w' := by
  have ht0 : PowTab w := powTab_of (by rw [MakeChecks.laidMetH_plain _ _ _ (by kernel_rfl)] at hL; exact hL)
  have HT : Hid (PowTab w) := ht0
  have HM : Hid (MaxCell w) := cell_of_shapedOpen_int hS (of_decide_eq_true (by kernel_rfl)) (zero := #[.int .i64 0]) (t := 3) (by kernel_rfl) rfl (by kernel_rfl) (by kernel_rfl) Tryd.underlying3
  clear ht0 hL hS
  by_cases hbig : 1048576 < a0.size
  · go_enter Tryd.func9, Tryd.ntmps9
    go_wp2
    go_ret
    exact ⟨rfl, Below.refl _ _⟩
  · have hb : a0.size ≤ 1048576 := by omega
    have hbI : (a0.size : Int) ≤ 1048576 := by omega
    go_enter Tryd.func9, Tryd.ntmps9
    go_wp2_with fail
    refine (spec_pc _ _ hb).mono ?_
    rintro e w1 ⟨⟨k, b, ⟨i, g, y, x, nl⟩⟩, ok, h1, rfl, hb1⟩
    have K0 := (Kept.start w).step hb1
    have HLT : Hid (0 < w.heap.size) := (show _ < _ by obtain ⟨m, hm⟩ := HM.out; exact World.block_lt_of_cell? w _ hm)
    have H1 := Lib.hid h1
    have K1 := K0.alloc7 (.int .i64 k) (.int .i64 b) (.int .i64 i) (.int .i64 g) (.int .i64 y) (.int .i64 x) (.bool nl) 61 w1.heap.size rfl
    clear hb1 h1 K0
    go_wp2_with fail
    refine (impl_pc _ _ hb (HT.out.below K1.1 (Nat.le_refl _)) (HM.out.below K1.1 HLT.out)).mono ?_
    rintro e w2 ⟨⟨k', b', ⟨i', g', y', x', nl'⟩⟩, ok', h2, rfl, hb2⟩
    obtain ⟨e1, e2⟩ := PCh_unique H1.out h2
    simp only [Cg.mk.injEq, Rw.mk.injEq] at e1
    obtain ⟨rfl, rfl, rfl, rfl, rfl, rfl, rfl⟩ := e1
    obtain rfl := e2
    have K2 := (K1.step hb2).alloc7 (.int .i64 k) (.int .i64 b) (.int .i64 i) (.int .i64 g) (.int .i64 y) (.int .i64 x) (.bool nl) 61 w2.heap.size rfl
    clear hb2 K1 h2
    have k0 := K2.get 0 rfl
    have k1 := K2.get 1 rfl
    have k2 := K2.get 2 rfl
    have k3 := K2.get 3 rfl
    have k4 := K2.get 4 rfl
    have k5 := K2.get 5 rfl
    have k6 := K2.get 6 rfl
    have j0 := K2.get 7 rfl
    have j1 := K2.get 8 rfl
    have j2 := K2.get 9 rfl
    have j3 := K2.get 10 rfl
    have j4 := K2.get 11 rfl
    have j5 := K2.get 12 rfl
    have j6 := K2.get 13 rfl
    have z1 := K2.lt 7 rfl
    go_wp2_with fail
    refine (law_eqC _ _ _ _ _ _ _ _).mono ?_
    rintro e w3 ⟨rfl, hb⟩
    have K3 := K2.step hb
    clear hb K2
    cases ok
    · go_wp2
      go_ret
      exact ⟨rfl, K3.1⟩
    · go_wp2
      go_ret
      exact ⟨rfl, K3.1⟩

/-! ### THE ROW's STEP: WRITTEN OUT: LEAVE IT -/
set_option maxRecDepth 100000 in
theorem lifted (os : Os) (started : os.Started) (H : Type) (enc : TypeId × Value → H) :
    ReturnsInHanded {} Tryd.checked os 9 .any (fun w args => (Rows.fnExactParseChangeSpec.pre enc Tryd.prog Tryd.f9 [] false w args ∧ laidMetH Tryd.prog Rows.fnExactParseChangeRow.laid w) ∧ sizedMet enc Tryd.prog Tryd.f9 (OpenSpec.ofChange Rows.fnExactParseChangeSpec) false w args)
      (Rows.fnExactParseChangeSpec.post enc Tryd.prog Tryd.f9 false true false false) := by
  refine returnsInHanded_of_calls own started (by kernel_rfl) (ChangeSpec.witness_shaped (enc := enc) (C := Tryd.checked) (os := os) (X := fun w _ => laidMetH Tryd.prog Rows.fnExactParseChangeRow.laid w) false (World.doorLaid Tryd.prog 400 os) #[.string ByteArray.empty] 8 rfl (World.shaped_of_RefB (by kernel_rfl) (by kernel_rfl)) (by kernel_rfl) (by kernel_rfl) (by kernel_rfl) (door_met os _)) ?_
  intro w0 tape i _ hS0 _ hok hpre _
  obtain ⟨_, _, _, fn', hfn', _, _, _, _, hval1⟩ := hok
  obtain rfl : fn' = Tryd.f9 := Option.some.inj (hfn'.symm.trans Tryd.func9)
  obtain ⟨⟨⟨ds, gs, before, hw0, _⟩, hL0⟩, _⟩ := hpre
  have hW0 := DataW.Whole.of_heap (w' := w0.forCall tape i) (by rfl) hw0
  have hL1 : laidMetH Tryd.prog Rows.fnExactParseChangeRow.laid (w0.forCall tape i) := hL0.of_heap (by rfl)
  suffices main : Calls Tryd.checked.prog 9 i.args (w0.forCall tape i) (fun e W' => ∃ v, e = .returned v ∧ Rows.fnExactParseChangeSpec.post enc Tryd.checked.prog Tryd.f9 false true false false (w0.forCall tape i) i.args v W') from
    main.mono fun e W' ⟨v, he, hp⟩ => by subst he; exact ChangeSpec.post_blind hp
  have hval0 : ∀ (j : Nat) t v, Tryd.f9.params[j]? = some t → i.args[j]? = some v → Value.okWide Tryd.prog (w0.forCall tape i) .any w0.heap.size t v := hval1
  obtain ⟨base, hbase⟩ : ∃ b, b = w0.heap.size := ⟨_, rfl⟩
  rw [← hbase] at hval0
  obtain ⟨W, hWW⟩ : ∃ W, W = w0.forCall tape i := ⟨_, rfl⟩
  rw [← hWW] at hval0 hW0 hL1 hS0
  rw [← hWW]
  obtain ⟨args, hAA⟩ : ∃ a, a = i.args := ⟨_, rfl⟩
  rw [← hAA] at hval0 hW0
  rw [← hAA]
  have hW : DataW.Whole enc Tryd.prog Tryd.f9.params.toList Rows.fnExactParseChangeSpec.vars false W args.toList ds gs before := hW0
  have hL := hL1
  have hS : W.ShapedOpen Tryd.prog := hS0
  clear hWW hAA hbase hval1 hw0 hW0 hL0 hL1 hS0
  have hval : ∀ (j : Nat) t v, Tryd.f9.params[j]? = some t → args[j]? = some v → Value.okWide Tryd.prog W .any base t v := hval0
  have hW' := hW
  obtain ⟨p, q, hA0, hV, rfl, hfz, hnd⟩ := hW
  have hA : DataW.TrodAll enc Tryd.prog W 0 (fun _ => true) true Tryd.f9.params.toList args.toList ds p := hA0
  rw [Tryd.params9] at hA hval
  obtain ⟨v0, vs0, d0, ds0, p0, q0, hargs, rfl, rfl, h0, r0⟩ := trodAll_cons hA
  obtain ⟨rfl, rfl, rfl⟩ := trodAll_nil r0
  obtain rfl : args = #[v0] := by cases args; simp_all
  obtain ⟨rfl, rfl⟩ := trodVars_none hV
  obtain ⟨a0, rfl, rfl, rfl, w0⟩ := open_string Tryd.underlying9 (hval 0 9 v0 rfl rfl) h0
  clear hA0 hval0
  simp only [List.append_nil] at hW'
  refine (walk a0 w0 W hL hS).mono fun e W' ⟨he, hg⟩ => ?_
  subst he
  exact ⟨_, rfl, _, _, _, [], _, [], hW', (trodAll_cons_mk (shut_bool Tryd.underlying4 _) trodAll_mk0), (trodAll_cons_mk (shut_string Tryd.underlying9 w0) trodAll_mk0), rfl, hg.frame _, fun h => by cases h⟩

theorem over : Rows.fnExactParseChangeRow.holds Tryd.pinned (OpenSpec.ofChange Rows.fnExactParseChangeSpec) :=
  OpenClaim.holds_of_wide 9 Tryd.f9 rfl rfl rfl rfl rfl rfl rfl ⟨rfl, rfl, rfl, rfl, rfl⟩ rfl rfl rfl rfl rfl (by kernel_rfl) Tryd.func9 (MkF.closed_of (by kernel_rfl) (by kernel_rfl) (by kernel_rfl) (by kernel_rfl) (by kernel_rfl) (by kernel_rfl) (by kernel_rfl) (by kernel_rfl) (by kernel_rfl) (by kernel_rfl) (by kernel_rfl) (by kernel_rfl) (by kernel_rfl) (by kernel_rfl) (by kernel_rfl) (by kernel_rfl) (by kernel_rfl) (by kernel_rfl) (by kernel_rfl) (by kernel_rfl) (by kernel_rfl) (by kernel_rfl) (by kernel_rfl) (by kernel_rfl) (by kernel_rfl) MkF.mk_enter (MkF.lifts_eq MkF.mk_lifts rfl) (MkF.make_eq MkF.mk_make rfl) (by kernel_rfl) (by kernel_rfl) (by kernel_rfl) (by kernel_rfl))
    (of_decide_eq_true (by kernel_rfl)) (by unfold Func.isWrapper; first | (rw [if_pos (by decide +kernel)]; kernel_rfl) | (rw [if_neg (by decide +kernel)]; exact ⟨rfl, rfl⟩))
    (fun os started H enc _ => lifted os started H enc)

/-- ████ THE STATEMENT: THE TIED CARD ████ -/
theorem proved : Rows.FnExactParseChangeCardSaid :=
  Claim7.holds_tied_plain_at .later [] [.data, .data, .data] true (true, "c294255d908f95f7d7cb0c4f733a50c97736118452588ade27ee96e3b1a80fb9") false
    over (fun _ h => by cases h) (by kernel_rfl) (fun _ h => by cases h) fnExactParseChange_row_tie rfl ⟨rfl, rfl⟩ (by kernel_rfl) rfl
    (fun f fn hf hfn => by
      obtain rfl : f = 9 := Option.some.inj ((show Tryd.prog.funcNamed "loop.example/g01927/laws.FnExactParseChange" = some 9 by kernel_rfl).symm.trans hf) |>.symm
      obtain rfl : fn = Tryd.f9 := (Option.some.inj (Tryd.func9.symm.trans hfn)).symm
      exact ⟨by kernel_rfl, fun j t ht => by
        rw [Tryd.params9] at ht
        have hm : t ∈ [9] := by simpa using Array.mem_of_getElem? ht
        have hall : ([9].all fun u => !Tryd.prog.wantsStandIn u) = true := by kernel_rfl
        exact (show Tryd.prog.wantsStandIn t = false by simpa using List.all_eq_true.1 hall t hm)⟩)
    (by kernel_rfl)
end Go.Proofs.YtndebdimjlfepaaDoor.fnExactParseChange
