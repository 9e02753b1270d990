/-
  Proved: for every slice of bytes, the law FnIntervals returns true (intervals meet in what both contain, one that lies within another meets it in itself, and they are read back from their format) and leaves its argument as it was. No condition; the library's tables are tied to the program's text by the card.
-/
import Derived.Test.YtdfmidihghoilaaDoorRows
import Derived.Test.YtdfmidihghoilaaDoorShelf
import Derived.Test.YtdfmidihghoilaaDoorBytesOwn
import Derived.Test.YtdfmidihghoilaaDoorItoaKit
import Derived.Test.YtdfmidihghoilaaDoorPlain
import Derived.Test.YtdfmidihghoilaaDoorFiSpec
import Derived.Test.YtdfmidihghoilaaDoorL1In
import Derived.Test.YtdfmidihghoilaaDoorKeep
import Derived.Test.YtdfmidihghoilaaDoorFrSpec
import Derived.Test.YtdfmidihghoilaaDoorFrImpl
import Derived.Test.YtdfmidihghoilaaDoorFfWalk
import Derived.Test.YtdfmidihghoilaaDoorPiSpec
import Derived.Test.YtdfmidihghoilaaDoorPiImpl
import Derived.Test.YtdfmidihghoilaaDoorPfPlain
import Derived.Test.YtdfmidihghoilaaDoorPfImpl
import Derived.Test.YtdfmidihghoilaaDoorStrOwn
import Derived.Test.YtdfmidihghoilaaDoorCutSpec
import Derived.Test.YtdfmidihghoilaaDoorPfSpec
import Derived.Test.YtdfmidihghoilaaDoorFmAns
import Derived.Test.YtdfmidihghoilaaDoorFmSpec
import Derived.Test.YtdfmidihghoilaaDoorRdImpl
import Derived.Test.YtdfmidihghoilaaDoorFsAns
import Derived.Test.YtdfmidihghoilaaDoorFsSpec
import Derived.Test.YtdfmidihghoilaaDoorFsImpl
import Derived.Test.YtdfmidihghoilaaDoorFcSpec
import Derived.Test.YtdfmidihghoilaaDoorFcImpl
import Derived.Test.YtdfmidihghoilaaDoorIvSpec
import Derived.Test.YtdfmidihghoilaaDoorIvEx
import Derived.Test.YtdfmidihghoilaaDoorIvCmp
import Derived.Test.YtdfmidihghoilaaDoorIvMeet
import Derived.Test.YtdfmidihghoilaaDoorIvWd
import Derived.Test.YtdfmidihghoilaaDoorMtMore
import Derived.Test.YtdfmidihghoilaaDoorIiImpl
import Derived.Test.YtdfmidihghoilaaDoorIxImpl
import Derived.Test.YtdfmidihghoilaaDoorIwImpl
import Derived.Test.YtdfmidihghoilaaDoorImImpl
import Derived.Test.YtdfmidihghoilaaDoorIfSpec
import Derived.Test.YtdfmidihghoilaaDoorIfImpl
import Derived.Test.YtdfmidihghoilaaDoorIpSpec
import Derived.Test.YtdfmidihghoilaaDoorCutDots
import Derived.Test.YtdfmidihghoilaaDoorIpImpl
import Derived.Test.YtdfmidihghoilaaDoorDrawCur
import Derived.Test.YtdfmidihghoilaaDoorDrawNew
import Derived.Test.YtdfmidihghoilaaDoorDrawInts
import Derived.Test.YtdfmidihghoilaaDoorDrawBox
import Derived.Test.YtdfmidihghoilaaDoorDrawFrac
import Derived.Test.YtdfmidihghoilaaDoorDrawOnce
import Derived.Test.YtdfmidihghoilaaDoorDrawIv
import Derived.Test.YtdfmidihghoilaaDoorDrawIv2
import Derived.Test.YtdfmidihghoilaaDoorDrawBig
import Derived.Test.YtdfmidihghoilaaDoorIvC
import Derived.Test.YtdfmidihghoilaaDoorIvWalk
import Derived.WalkKit
import Derived.ProofKit
import Derived.LaidMore
import Derived.Shelf.Vars
import Derived.Stop.Joined
import Derived.SevenTiedAt
import Derived.Test.YtdfmidihghoilaaDoorTie
import Derived.Test.YtdfmidihghoilaaDoorCards
import Derived.OpenShut
import Derived.ShutString
import Derived.ChangeOld
import Derived.Below
namespace Go.Proofs.YtdfmidihghoilaaDoor.fnIntervals
open Go.ChangeShapes Go.WideShapes Go.ChangeAt Go.RowKit
open Go.ChangeMaps (open_string shut_string)
set_option linter.unusedVariables false

theorem own : ownKnob Tryd.prog.godebug = none := by kernel_rfl
theorem laidOut : laidOutB Tryd.prog = true := by kernel_rfl

/-- WHAT THE WALK IS TOLD OF A SLICE OF INTEGERS THAT CAME IN: it is nil; or it leads to a row of 'cap' cells, the numbers 'zs' (the first 'len' are its elements, the rest its spare room), each fitting its kind. -/
def IsRow (k : IntKind) (w : World) (a : Option Addr) (len cap : Nat) (zs : List Int) : Prop :=
  (a = none ∧ len = 0 ∧ cap = 0 ∧ zs = []) ∨
  ∃ x, a = some x ∧ len ≤ cap ∧ cap ≤ maxLen ∧ zs.length = cap ∧ (∀ i, i < zs.length → w.cell? (x.add i) = some (.int k (zs.getD i 0))) ∧ ∀ n ∈ zs, (Lit.int k n).wf = true

/-! ### STEP 1: THE WALK: the Go text returns true, AND WRITES NOTHING THAT WAS THERE: 'Below w.heap.size w w'' (Derived/Below.lean: '.refl', '.alloc', '.drew', '.setCell' at a new block, '.trans'). Open each 'IsRow' by 'rcases' AHEAD of 'go_enter'; part every test ahead of the walk. -/
theorem door_met (os : Os) (args : Array Value) : laidMetH Tryd.prog Rows.fnIntervalsRow.laid ((World.doorLaid Tryd.prog 400 os).forCall (fun _ _ => 0) ⟨#[], args, []⟩).memory :=
  laidMetH_of_parts3 (fuel := 8) (laidMet_of_run' 8 (by kernel_rfl) (by kernel_rfl)) (by kernel_rfl) (by kernel_rfl)

set_option maxRecDepth 100000 in
set_option maxHeartbeats 8000000 in
theorem walk (a0 : Option Addr) (len0 cap0 : Nat) (z0 : List Int) (w : World) (w0 : IsRow .u8 w a0 len0 cap0 z0) (hL : laidMetH Tryd.prog Rows.fnIntervalsRow.laid w) (hS : w.ShapedOpen Tryd.prog) :
    Calls Tryd.prog 5 #[.slice a0 len0 cap0] w fun e w' => e = .returned (.bool true) ∧ Below w.heap.size w w' := by
  have ht : PowTab w := powTab_of (by rw [MakeChecks.laidMetH_plain _ _ _ (by kernel_rfl)] at hL; exact hL)
  have hm : MaxCell w := cell_of_shapedOpen_int hS (of_decide_eq_true (by kernel_rfl)) (zero := #[.int .i64 0]) (t := 3) (by kernel_rfl) rfl (by kernel_rfl) (by kernel_rfl) Tryd.underlying3
  clear hL hS
  by_cases hbig : 1048576 < len0
  · clear ht hm w0
    go_enter Tryd.func5, Tryd.ntmps5
    go_wp2_with fail
    refine (big_yes a0 len0 cap0 _ hbig).mono ?_
    rintro e w' ⟨rfl, rfl⟩
    go_wp2_with fail
    go_ret
    exact ⟨rfl, Below.refl _ _⟩
  · refine iv_walk a0 len0 cap0 w ⟨by omega, ?_⟩ ht hm
    rcases w0 with ⟨_, h, _, _⟩ | ⟨x, rfl, hl, hmm, hz, hc, hw⟩
    · exact .inl h
    · by_cases h0 : len0 = 0
      · exact .inl h0
      · have hcell : ∀ i, i < len0 → ∃ v : Nat, v < 256 ∧ w.cell? (x.add i) = some (.int .u8 v) := fun i hi => by
          have hi' : i < z0.length := by omega
          have h1 := hc i hi'
          have h2 := hw (z0.getD i 0) (by simp [List.getD, hi'])
          obtain ⟨h3, h4⟩ := u8_wf h2
          obtain ⟨v, hv⟩ := Int.eq_ofNat_of_zero_le h3
          exact ⟨v, by omega, by rw [h1, hv]⟩
        obtain ⟨v, _, hv⟩ := hcell 0 (by omega)
        exact .inr ⟨x, rfl, by have := World.block_lt_of_cell? w _ hv; rw [add_block] at this; exact this, hcell⟩

/-! ### THE ROW's STEP: WRITTEN OUT: LEAVE IT -/
set_option maxRecDepth 100000 in
theorem lifted (os : Os) (started : os.Started) (H : Type) (enc : TypeId × Value → H) :
    ReturnsInHanded {} Tryd.checked os 5 .any (fun w args => (Rows.fnIntervalsSpec.pre enc Tryd.prog Tryd.f5 [] false w args ∧ laidMetH Tryd.prog Rows.fnIntervalsRow.laid w) ∧ sizedMet enc Tryd.prog Tryd.f5 (OpenSpec.ofChange Rows.fnIntervalsSpec) false w args)
      (Rows.fnIntervalsSpec.post enc Tryd.prog Tryd.f5 false true false false) := by
  refine returnsInHanded_of_calls own started (by kernel_rfl) (ChangeSpec.witness_shaped (enc := enc) (C := Tryd.checked) (os := os) (X := fun w _ => laidMetH Tryd.prog Rows.fnIntervalsRow.laid w) false (World.doorLaid Tryd.prog 400 os) #[.slice none 0 0] 8 rfl (World.shaped_of_RefB (by kernel_rfl) (by kernel_rfl)) (by kernel_rfl) (by kernel_rfl) (by kernel_rfl) (door_met os _)) ?_
  intro w0 tape i _ hS0 _ hok hpre _
  obtain ⟨_, _, _, fn', hfn', _, _, _, _, hval1⟩ := hok
  obtain rfl : fn' = Tryd.f5 := Option.some.inj (hfn'.symm.trans Tryd.func5)
  obtain ⟨⟨⟨ds, gs, before, hw0, _⟩, hL0⟩, _⟩ := hpre
  have hW0 := DataW.Whole.of_heap (w' := w0.forCall tape i) (by rfl) hw0
  have hL1 : laidMetH Tryd.prog Rows.fnIntervalsRow.laid (w0.forCall tape i) := hL0.of_heap (by rfl)
  suffices main : Calls Tryd.checked.prog 5 i.args (w0.forCall tape i) (fun e W' => ∃ v, e = .returned v ∧ Rows.fnIntervalsSpec.post enc Tryd.checked.prog Tryd.f5 false true false false (w0.forCall tape i) i.args v W') from
    main.mono fun e W' ⟨v, he, hp⟩ => by subst he; exact ChangeSpec.post_blind hp
  have hval0 : ∀ (j : Nat) t v, Tryd.f5.params[j]? = some t → i.args[j]? = some v → Value.okWide Tryd.prog (w0.forCall tape i) .any w0.heap.size t v := hval1
  obtain ⟨base, hbase⟩ : ∃ b, b = w0.heap.size := ⟨_, rfl⟩
  rw [← hbase] at hval0
  obtain ⟨W, hWW⟩ : ∃ W, W = w0.forCall tape i := ⟨_, rfl⟩
  rw [← hWW] at hval0 hW0 hL1 hS0
  rw [← hWW]
  obtain ⟨args, hAA⟩ : ∃ a, a = i.args := ⟨_, rfl⟩
  rw [← hAA] at hval0 hW0
  rw [← hAA]
  have hW : DataW.Whole enc Tryd.prog Tryd.f5.params.toList Rows.fnIntervalsSpec.vars false W args.toList ds gs before := hW0
  have hL := hL1
  have hS : W.ShapedOpen Tryd.prog := hS0
  clear hWW hAA hbase hval1 hw0 hW0 hL0 hL1 hS0
  have hval : ∀ (j : Nat) t v, Tryd.f5.params[j]? = some t → args[j]? = some v → Value.okWide Tryd.prog W .any base t v := hval0
  have hW' := hW
  obtain ⟨p, q, hA0, hV, rfl, hfz, hnd⟩ := hW
  have hA : DataW.TrodAll enc Tryd.prog W 0 (fun _ => true) true Tryd.f5.params.toList args.toList ds p := hA0
  rw [Tryd.params5] at hA hval
  obtain ⟨v0, vs0, d0, ds0, p0, q0, hargs, rfl, rfl, h0, r0⟩ := trodAll_cons hA
  obtain ⟨rfl, rfl, rfl⟩ := trodAll_nil r0
  obtain rfl : args = #[v0] := by cases args; simp_all
  obtain ⟨rfl, rfl⟩ := trodVars_none hV
  obtain ⟨a0, len0, cap0, rfl⟩ := okWide_slice Tryd.underlying36 (hval 0 36 v0 rfl rfl)
  have k0 := h0
  have lt0 : ∀ x ∈ p0, x.block < W.heap.size := by obtain ⟨m, hm⟩ := k0; exact DataW.trod_lt m _ _ _ hm
  obtain ⟨z0, w0⟩ : ∃ zs, IsRow .u8 W a0 len0 cap0 zs := by
    obtain ⟨fuel, hf⟩ := h0
    rcases open_ints Tryd.underlying36 Tryd.underlying5 (by kernel_rfl) hf with ⟨hcs, _⟩ | ⟨x, l, c, zs, hcs, _, hl, hm, hz, _, hcell, hwz⟩
    · simp [Value.cells] at hcs
      obtain ⟨rfl, rfl, rfl⟩ := hcs
      exact ⟨[], .inl ⟨rfl, rfl, rfl, rfl⟩⟩
    · simp [Value.cells] at hcs
      obtain ⟨rfl, rfl, rfl⟩ := hcs
      exact ⟨zs, .inr ⟨_, rfl, hl, hm, by simpa using hz, hcell, hwz⟩⟩
  clear hA0 hval0
  refine (walk a0 len0 cap0 z0 W w0 hL hS).mono fun e W' ⟨he, bel⟩ => ?_
  subst he
  exact ⟨_, rfl, _, _, _, [], _, [], hW', trodAll_mk1 (shut_bool Tryd.underlying4 _), (trodAll_cons_mk (Below.trod laidOut (by kernel_rfl) (of_decide_eq_true (by kernel_rfl)) k0 bel lt0) trodAll_mk0), rfl, bel.frame _, fun h => by cases h⟩

theorem over : Rows.fnIntervalsRow.holds Tryd.pinned (OpenSpec.ofChange Rows.fnIntervalsSpec) :=
  OpenClaim.holds_of_wide 5 Tryd.f5 rfl rfl rfl rfl rfl rfl rfl ⟨rfl, rfl, rfl, rfl, rfl⟩ rfl rfl rfl rfl rfl (by kernel_rfl) Tryd.func5 (by kernel_rfl)
    (of_decide_eq_true (by kernel_rfl)) (by unfold Func.isWrapper; first | (rw [if_pos (by decide +kernel)]; kernel_rfl) | (rw [if_neg (by decide +kernel)]; exact ⟨rfl, rfl⟩))
    (fun os started H enc _ => lifted os started H enc)

/-- ████ THE STATEMENT: THE TIED CARD ████ -/
theorem proved : Rows.FnIntervalsCardSaid :=
  Claim7.holds_tied_plain_at .later [] [.data, .data, .data] true (true, "ef94622faadfec7e144121d78ed7c28384a801c832c62cd1086d80b0c98d418d") false
    over (fun _ h => by cases h) (by kernel_rfl) (fun _ h => by cases h) fnIntervals_row_tie rfl ⟨rfl, rfl⟩ (by kernel_rfl) rfl
    (fun f fn hf hfn => by
      obtain rfl : f = 5 := Option.some.inj ((show Tryd.prog.funcNamed "loop.example/g01927/laws.FnIntervals" = some 5 by kernel_rfl).symm.trans hf) |>.symm
      obtain rfl : fn = Tryd.f5 := (Option.some.inj (Tryd.func5.symm.trans hfn)).symm
      exact ⟨by kernel_rfl, fun j t ht => by
        rw [Tryd.params5] at ht
        have hm : t ∈ [36] := by simpa using Array.mem_of_getElem? ht
        have hall : ([36].all fun u => !Tryd.prog.wantsStandIn u) = true := by kernel_rfl
        exact (show Tryd.prog.wantsStandIn t = false by simpa using List.all_eq_true.1 hall t hm)⟩)
    (by kernel_rfl)
end Go.Proofs.YtdfmidihghoilaaDoor.fnIntervals
