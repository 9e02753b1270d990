/-
  The walk over the project's rowPlaces: a map from row IDs to the blocks in which they stand.
-/
import Derived.Test.YtcfcohnkkgickaaDoorRows
import Derived.Test.YtcfcohnkkgickaaDoorMpPlain
import Derived.WalkKit
import Derived.WalkSpells
import Derived.WalkLawsBesides
import Derived.IntWalk
import Derived.OwnWalk
import Derived.Lib.Hide
import Derived.Maps.OwnRows
import Derived.Maps.GroupsBeside
import Derived.Deep.AppendLies
import Derived.Deep.RegionHeld3
namespace Go.Proofs.YtcfcohnkkgickaaDoor
open Go.RowKit Num Go.Maps

theorem infoInt : (Tryd.prog.info? 3).map (fun i => (i.zero, i.size, i.bytes)) = some (some (.int .i64 0), 1, 8) := by kernel_rfl
theorem zeroInts (w : World) : (zeroValue 44).run Tryd.prog w = .ok (.slice none 0 0) w := by kernel_rfl
theorem mapLaw : Keyed Tryd.prog 3 := int_keyed Tryd.underlying3
theorem mapT : Tryd.prog.underlying 89 = some (.map 3 44) := by kernel_rfl

/-- A block of another type is no row that is owned. -/
theorem row_apart {w : World} {base : Nat} {e t : TypeId} {size n rb : Nat} {v : Value} {xs : List Value} {cs : Array Value} {fz : Nat × Nat} (ho : w.ownsRow base e size v n xs) (hb : w.heap[rb]? = some (.cells cs t fz)) (hne : t ≠ e) : some rb ≠ v.ownBlock := by
  rcases ho.2 with ⟨rfl, _⟩ | ⟨g, cap, cur, rfl, _, hh, _⟩
  · intro h; cases h
  · intro h
    obtain rfl : rb = g := by simpa [Value.ownBlock] using h
    rw [hb] at hh
    simp only [Option.some.injEq, Obj.cells.injEq] at hh
    exact hne hh.2.1
theorem grown_drew (w : World) (row : Option Nat) : w.grownBy w.drew row := ⟨rfl, rfl, rfl, Nat.le_refl _, fun _ _ _ => rfl⟩
theorem groups_alloc {H : Type} {w : World} {P : Program} {k e : TypeId} {base b n : Nat} {q : IntKind} {D : DataW H} (h : w.ownsGroups P k base e q b n D) (o : Obj) : (w.alloc o).ownsGroups P k base e q b n D :=
  h.kept (row := none) (World.grownBy_alloc w o none) (by simp) (h.rowsAbove (fun j hj => by cases hj))
theorem groups_drew {H : Type} {w : World} {P : Program} {k e : TypeId} {base b n : Nat} {q : IntKind} {D : DataW H} (h : w.ownsGroups P k base e q b n D) : w.drew.ownsGroups P k base e q b n D :=
  h.kept (row := none) (grown_drew w none) (by simp) (h.rowsAbove (fun j hj => by cases hj))

/-- What rowPlaces leaves. -/
def RpPost (l : List Blk) (n : Nat) (w : World) (e : Ending) (w' : World) : Prop :=
  ∃ (b m : Nat) (D : DataW Unit), e = .returned (.map (some b)) ∧ m < maxLen ∧ w'.ownsGroups Tryd.prog 3 (b + 1) 3 .i64 b m D ∧ GrpAt D (blkPairs l n) ∧ w.heap.size ≤ b ∧ Below w.heap.size w w'

set_option maxRecDepth 8000 in
set_option maxHeartbeats 12800000 in
theorem impl_rp (ver : Int) (ao : Option Addr) (n cap : Nat) (l : List Blk) (w : World) (hl : l.length = n) (hn : n ≤ 1048576) (hr : ∀ k, k < n → (Bn l k).rows.length ≤ 1048576) (hw : WfB n (Bn l)) (hV : BlksVal w ao l) :
    Calls Tryd.prog 55 #[.agg #[.int .i64 ver, .slice ao n cap]] w (RpPost l n w) := by
  have HV := Lib.hid hV
  have HL := Lib.hid hl
  have HR := Lib.hid hr
  have HW := Lib.hid hw
  clear hV hl hr hw
  have hnI : (n : Int) ≤ 1048576 := by omega
  have hmm := @run_makeMap Tryd.prog
  obtain ⟨i0, hi, hz0, hz1, hz2⟩ := info_parts infoInt
  go_enter Tryd.func55, Tryd.ntmps55
  go_wp2_with fail
  have K0 := (Kept.start w).alloc2 (.int .i64 ver) (.slice ao n cap) 40 _ rfl
  have G0 := Lib.hid (World.ownsGroups_made (H := Unit) (w.alloc (.cells #[.int .i64 ver, .slice ao n cap] 40)) Tryd.prog 3 3 .i64)
  have B0 := Lib.hid (K0.1.alloc K0.1.size (.map #[] 0))
  go_loopw [12] (fun iv wr => ∃ (k : Nat) (D : DataW Unit), k ≤ n ∧ iv = .int .i64 k ∧ Hid (wr.ownsGroups Tryd.prog 3 (w.heap.size + 1 + 1) 3 .i64 (w.heap.size + 1) (blkPairs l k).length D) ∧ Hid (GrpAt D (blkPairs l k)) ∧ Hid (Below w.heap.size w wr) ∧ w.heap.size + 1 + 1 ≤ wr.heap.size) (fun iv _ => n - (intOf iv).toNat)
  case atStart => exact ⟨0, _, Nat.zero_le _, rfl, Lib.hid (by simpa [blkPairs] using G0.out), Lib.hid GrpAt.start, B0, by simp⟩
  case round =>
    obtain ⟨k, D, hk, rfl, HG, HD, HB, hsz⟩ := hrel
    clear K0 G0 B0
    by_cases hlt : k < n
    · have hkI : (k : Int) < (n : Int) := by omega
      have hwk : (Lit.int .i64 (k : Int)).wf = true := WalkArith.wf_i64 (by omega)
      obtain ⟨g, rfl, hg, hBk⟩ := HV.out.head HL.out (by omega)
      obtain ⟨rao, rcap, c0, c1, hRV⟩ := hBk k hlt
      have HRV := Lib.hid hRV
      have c0 := (HB.out.cell (p := ⟨g, k * 2, none⟩) hg).trans c0
      have c1 := (HB.out.cell (p := ⟨g, k * 2 + 1, none⟩) hg).trans c1
      have hrl := HR.out k hlt
      have HLN := Lib.hid (blkPairs_len l HR.out k hk)
      have HWK := Lib.hid (HW.out k hlt)
      have HEND := Lib.hid (show blkPairs l (k + 1) = blkPairs l k ++ rowPairs (Bn l k).rows k (Bn l k).rows.length from rfl)
      obtain ⟨bk, hbk⟩ : ∃ bk, bk = Bn l k := ⟨_, rfl⟩
      rw [← hbk] at c0 c1 HRV hrl HWK HEND
      obtain ⟨rs, hrs⟩ : ∃ rs, rs = bk.rows := ⟨_, rfl⟩
      rw [← hrs] at c1 HRV hrl HWK HEND
      obtain ⟨m, hm⟩ : ∃ m, m = rs.length := ⟨_, rfl⟩
      rw [← hm] at c1 HRV hrl HWK HEND
      have hmI : (m : Int) ≤ 1048576 := by omega
      obtain ⟨ps, hps⟩ : ∃ ps, ps = blkPairs l k := ⟨_, rfl⟩
      rw [← hps] at HG HD HLN HEND
      have hgl := HLN.out
      have hB0 := HB.out.alloc HB.out.size (.cells #[.int .i64 bk.id, .slice rao m rcap] 29)
      have HB1 := Lib.hid hB0
      have HG1 := Lib.hid (groups_alloc HG.out (.cells #[.int .i64 bk.id, .slice rao m rcap] 29))
      clear hBk hRV hbk hrs hm hps hB0
      go_wp2_with fail
      go_loopw [20] (fun jv wr => ∃ (j : Nat) (D : DataW Unit), j ≤ m ∧ jv = .int .i64 j ∧ Hid (wr.ownsGroups Tryd.prog 3 (w.heap.size + 1 + 1) 3 .i64 (w.heap.size + 1) (ps.length + j) D) ∧ Hid (GrpAt D (ps ++ rowPairs rs k j)) ∧ Hid (Below w.heap.size w wr) ∧ w.heap.size + 1 + 1 ≤ wr.heap.size) (fun jv _ => m - (intOf jv).toNat)
      case atStart => exact ⟨0, D, Nat.zero_le _, rfl, HG1, by simpa [rowPairs] using HD, HB1, by simp; omega⟩
      case round =>
        clear HG HD HB HG1 HB1 c0 c1 hsz D
        obtain ⟨j, D, hj, rfl, HG, HD, HB, hsz⟩ := hrel
        by_cases hjt : j < m
        · have hjI : (j : Int) < (m : Int) := by omega
          obtain ⟨h, rfl, hh, hRows⟩ : ∃ h, rao = some ⟨h, 0, none⟩ ∧ h < w.heap.size ∧ ∀ k, k < m → RowIn w h k (Rn rs k) := HRV.out.resolve_left (by omega)
          obtain ⟨d0, d1, d2, d3, d4⟩ := (hRows j hjt).below HB.out hh
          have hwi := HWK.out j hjt
          obtain ⟨r, hr⟩ : ∃ r, r = Rn rs j := ⟨_, rfl⟩
          have HPS := Lib.hid (show ps ++ rowPairs rs k (j + 1) = ps ++ rowPairs rs k j ++ [(r.i, (k : Int))] from by rw [hr, List.append_assoc]; rfl)
          rw [← hr] at d0 d1 d2 d3 d4 hwi
          obtain ⟨rb, hrb⟩ : ∃ rb, rb = wr.heap.size := ⟨_, rfl⟩
          have HH := Lib.hid hh
          clear hRows hr hh
          have hkey := keyOf_int_mk Tryd.underlying3 hwi
          have h5 := groups_alloc HG.out (.cells #[.int .i64 r.i, .int .i64 r.g, .int .i64 r.y, .int .i64 r.x, .bool r.nl] 58)
          have blk5 := heap_alloc_new wr (.cells #[.int .i64 r.i, .int .i64 r.g, .int .i64 r.y, .int .i64 r.x, .bool r.nl] 58)
          have b5 := Lib.hid (HB.out.alloc HB.out.size (.cells #[.int .i64 r.i, .int .i64 r.g, .int .i64 r.y, .int .i64 r.x, .bool r.nl] 58))
          have s5 : (wr.alloc (.cells #[.int .i64 r.i, .int .i64 r.g, .int .i64 r.y, .int .i64 r.x, .bool r.nl] 58)).heap.size = wr.heap.size + 1 := by simp
          have hA := groups_drew h5
          have hB := groups_drew (groups_alloc h5 (.cells #[.int .i64 (k : Int)] 3))
          go_wp2_with fail
          generalize (wr.alloc (.cells #[.int .i64 r.i, .int .i64 r.g, .int .i64 r.y, .int .i64 r.x, .bool r.nl] 58)) = w5 at *
          have c5 : w5.cell? ⟨wr.heap.size, 0, none⟩ = some (.int .i64 r.i) := by rw [cell_of_row w5 wr.heap.size 0 _ _ (0, 0) blk5]; rfl
          have hnl : ps.length + j < maxLen := by unfold maxLen; omega
          obtain ⟨vA, zA, runA, hatA, hoiA, hzlA, backA⟩ := hA.at mapLaw mapT (zeroInts _) hnl hkey
          obtain ⟨vB, zB, runB, hatB, hoiB, hzlB, backB⟩ := hB.at mapLaw mapT (zeroInts _) hnl hkey
          have neA : some wr.heap.size ≠ vA.ownBlock := row_apart hoiA.1 (show w5.drew.heap[wr.heap.size]? = _ from blk5) (by decide)
          have blkB : ((w5.alloc (.cells #[.int .i64 (k : Int)] 3)).drew).heap[wr.heap.size]? = some (.cells #[.int .i64 r.i, .int .i64 r.g, .int .i64 r.y, .int .i64 r.x, .bool r.nl] 58) := ((World.grownBy_alloc w5.drew _ none).block _ (show wr.heap.size < w5.heap.size by omega) (by simp)).trans blk5
          have neB : some wr.heap.size ≠ vB.ownBlock := row_apart hoiB.1 blkB (by decide)
          have neM : some wr.heap.size ≠ some (w.heap.size + 1) := by simp; omega
          have ZA : zA = sel (ps ++ rowPairs rs k j) r.i := HD.out.read hoiA hatA
          have ZB : zB = sel (ps ++ rowPairs rs k j) r.i := HD.out.read hoiB hatB
          have BA := Lib.hid backA
          have BB := Lib.hid backB
          have OA := Lib.hid hoiA
          have OB := Lib.hid hoiB
          have PA := Lib.hid ZA
          have PB := Lib.hid ZB
          have sB : ((w5.alloc (.cells #[.int .i64 (k : Int)] 3)).drew).heap.size = w5.heap.size + 1 := by show (w5.alloc (.cells #[.int .i64 (k : Int)] 3)).heap.size = _; rw [World.size_alloc]
          have lB : wr.heap.size < ((w5.alloc (.cells #[.int .i64 (k : Int)] 3)).drew).heap.size := by omega
          have bB : w.heap.size + 1 + 1 ≤ ((w5.alloc (.cells #[.int .i64 (k : Int)] 3)).drew).heap.size := by omega
          have lC : w5.heap.size ≤ ((w5.alloc (.cells #[.int .i64 (k : Int)] 3)).drew).heap.size := by omega
          have l5 : w5.heap.size < ((w5.alloc (.cells #[.int .i64 (k : Int)] 3)).drew).heap.size := by omega
          have oA2 : ((w5.alloc (.cells #[.int .i64 (k : Int)] 3)).drew).ownsRow (w.heap.size + 1 + 1) 3 1 vA zA.length (zA.map (Value.int .i64)) := hoiA.1.alloc _
          have gA2 : ∀ row, w5.drew.grownBy ((w5.alloc (.cells #[.int .i64 (k : Int)] 3)).drew) row := fun row => World.grownBy_alloc w5.drew _ row
          have cN : ∀ j9 u9, ([.int .i64 (k : Int)] : List Value)[j9]? = some u9 → ((w5.alloc (.cells #[.int .i64 (k : Int)] 3)).drew).cell? ((⟨w5.heap.size, 0, none⟩ : Addr).add j9) = some u9 := cell_one_new w5 _ _
          have OA2 := Lib.hid oA2
          have GA2 := Lib.hid gA2
          have CN := Lib.hid cN
          have S5 := Lib.hid s5
          clear oA2 gA2 cN s5 sB hA hB h5 hatA hatB backA backB hoiA hoiB blk5 blkB ZA ZB hrb hkey hwi d0 d1 d2 d3 d4
          (first | go_region_held3 (fun w' => w'.cell? ⟨wr.heap.size, 0, none⟩ = some (.int .i64 r.i)) (first | assumption | exact c5 | exact cell_alloc_some _ (by assumption) | exact (grow2.cell_far ⟨wr.heap.size, 0, none⟩ (Nat.lt_of_lt_of_le lB hsz1) neM).trans (by assumption) | exact (hgrow.cell_far ⟨wr.heap.size, 0, none⟩ lB neA).trans (by assumption) | exact (hgrow.cell_far ⟨wr.heap.size, 0, none⟩ lB neB).trans (by assumption)) (first
            | (refine step_append_lies ((w5.alloc (.cells #[.int .i64 (k : Int)] 3)).drew) (by rfl) _ _ 44 (by rfl) (w.heap.size + 1 + 1) 3 i0 (.int .i64 0) 1 8 Tryd.underlying44 hi hz0 hz1 hz2 rfl (by decide) vA zA.length (zA.map (Value.int .i64)) (by rfl) OA2.out ⟨w5.heap.size, 0, none⟩ 1 1 [.int .i64 k] (by rfl) rfl CN.out (ints_oneCell .i64 [(k : Int)]) (by decide) (by unfold maxLen; omega) (by omega) bB _ rfl ?_; intro g9 cap9 w1 hown1 hgrow hat hlt1; obtain ⟨w2, run2, own2, grow2⟩ := BA.out w1 (.slice (some ⟨g9, 0, none⟩) (zA.length + 1) cap9) (zA ++ [(k : Int)]) ((GA2.out _).trans hgrow) (OA.out.appended hown1 hwk) (by simp; omega) (hat.imp (fun h => h.symm) (fun h => ⟨g9, rfl, by rw [h]; exact lC⟩)); have hsz1 := hgrow.size)
            | (refine step_append_lies ((w5.alloc (.cells #[.int .i64 (k : Int)] 3)).drew) (by rfl) _ _ 44 (by rfl) (w.heap.size + 1 + 1) 3 i0 (.int .i64 0) 1 8 Tryd.underlying44 hi hz0 hz1 hz2 rfl (by decide) vB zB.length (zB.map (Value.int .i64)) (by rfl) OB.out.1 ⟨w5.heap.size, 0, none⟩ 1 1 [.int .i64 k] (by rfl) rfl CN.out (ints_oneCell .i64 [(k : Int)]) (by decide) (by unfold maxLen; omega) (by omega) bB _ rfl ?_; intro g9 cap9 w1 hown1 hgrow hat hlt1; obtain ⟨w2, run2, own2, grow2⟩ := BB.out w1 (.slice (some ⟨g9, 0, none⟩) (zB.length + 1) cap9) (zB ++ [(k : Int)]) hgrow (OB.out.appended hown1 hwk) (by simp; omega) (hat.imp (fun h => h.symm) (fun h => ⟨g9, rfl, by rw [h]; exact Nat.le_refl _⟩)); have hsz1 := hgrow.size)) | fail)
          all_goals
            have HG2 := Lib.hid own2
            have sz2 : w.heap.size + 1 + 1 ≤ w2.heap.size := by
              have h1 := grow2.size
              have h2 := S5.out
              omega
            first
              | (have HD2 := Lib.hid (HD.out.put PA.out (OA.out.appended hown1 hwk)); have HB2 := Lib.hid (Below.groups b5.out.drew OA.out ((GA2.out _).trans hgrow) grow2 b5.out.size (by omega) (by omega)))
              | (have HD2 := Lib.hid (HD.out.put PB.out (OB.out.appended hown1 hwk)); have HB2 := Lib.hid (Below.groups (b5.out.alloc b5.out.size _).drew OB.out hgrow grow2 (Nat.le_trans b5.out.size (by assumption)) (by omega) (by omega)))
            rw [← HPS.out] at HD2
            obtain ⟨w7, hw7⟩ : ∃ w7, w7 = w2 := ⟨_, rfl⟩
            clear own2 grow2 run2 hgrow hown1 OA OB BA BB PA PB OA2 GA2 CN runA runB
            subst hw7
            go_wp2
            go_roundw
            case rel => exact ⟨j + 1, _, by omega, by go_num, HG2, HD2, HB2, sz2⟩
            case measure => simp [intOf]; omega
        · obtain rfl : j = m := by omega
          have hsd : decide ((j : Int) < (j : Int)) = false := decide_eq_false (by omega)
          go_wp2
          go_roundw
          case rel => exact ⟨k + 1, D, by omega, by go_num, Lib.hid (by rw [HEND.out, List.length_append, rowPairs_len]; exact HG.out), Lib.hid (by rw [HEND.out]; exact HD.out), HB, hsz⟩
          case measure => simp [intOf]; omega
    · obtain rfl : k = n := by omega
      have hsd : decide ((k : Int) < (k : Int)) = false := decide_eq_false (by omega)
      have hm := blkPairs_len l HR.out k (Nat.le_refl _)
      have hm2 : (blkPairs l k).length < maxLen := by unfold maxLen; omega
      clear hm
      go_wp2
      go_ret
      exact ⟨w.heap.size + 1, _, D, rfl, hm2, HG.out, HD.out, by omega, HB.out⟩
end Go.Proofs.YtcfcohnkkgickaaDoor
