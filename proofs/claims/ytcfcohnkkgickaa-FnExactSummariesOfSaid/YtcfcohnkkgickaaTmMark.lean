/-
  The laws' comparing, marking and reading of tables, over what the tables hold.
-/
import Derived.Test.YtcfcohnkkgickaaRows
import Derived.Test.YtcfcohnkkgickaaMkRows
import Derived.Test.YtcfcohnkkgickaaBkOwn
import Derived.Test.YtcfcohnkkgickaaTbLaw
namespace Go.Proofs.Ytcfcohnkkgickaa
open Go.RowKit Num

theorem law_eqTblO (ver : Int) (ao bo : Option Addr) (n m c c' : Nat) (l : List Blk) (fp fp' : List Nat) (w : World) (hn : l.length ≤ 1048576) (hr : ∀ k (hk : k < l.length), l[k].rows.length ≤ 1048576) (h : SliceRep blkTy w (.slice ao n c) l fp) (h' : SliceRep blkTy w (.slice bo m c') l fp') :
    Calls Try.prog 18 #[.agg #[.int .i64 ver, .slice ao n c], .agg #[.int .i64 ver, .slice bo m c']] w fun e w' => e = .returned (.bool true) ∧ Below w.heap.size w w' := by
  obtain ⟨ao1, c1, e1, _, hV⟩ := blks_open h
  obtain ⟨bo1, c2, e2, _, hV'⟩ := blks_open h'
  simp only [Value.slice.injEq] at e1 e2
  obtain ⟨rfl, rfl, rfl⟩ := e1
  obtain ⟨rfl, rfl, rfl⟩ := e2
  exact law_eqTbl ver _ _ _ _ _ l w rfl hn hr hV hV'

/-- The blocks that the laws write from k on, and the number behind them. -/
def markBlks : Int → List Blk → List Blk
  | _, [] => []
  | k, b :: l => ⟨k, marks (k + 1) b.rows.length⟩ :: markBlks (k + 1 + 5 * (b.rows.length : Int)) l
def markEnd : Int → List Blk → Int
  | k, [] => k
  | k, b :: l => markEnd (k + 1 + 5 * (b.rows.length : Int)) l
theorem markBlks_len : ∀ (l : List Blk) (k : Int), (markBlks k l).length = l.length
  | [], _ => rfl
  | b :: l, k => by rw [markBlks, List.length_cons, markBlks_len l, List.length_cons]
theorem markEnd_app : ∀ (p q : List Blk) (k : Int), markEnd k (p ++ q) = markEnd (markEnd k p) q
  | [], _, _ => rfl
  | b :: p, q, k => by rw [List.cons_append, markEnd, markEnd, markEnd_app p q]
theorem markBlks_app : ∀ (p q : List Blk) (k : Int), markBlks k (p ++ q) = markBlks k p ++ markBlks (markEnd k p) q
  | [], _, _ => rfl
  | b :: p, q, k => by rw [List.cons_append, markBlks, markBlks, markEnd, markBlks_app p q, List.cons_append]
theorem markEnd_ge : ∀ (l : List Blk) (k : Int), k ≤ markEnd k l
  | [], _ => Int.le_refl _
  | b :: l, k => by
    have h2 := markEnd_ge l (k + 1 + 5 * (b.rows.length : Int))
    rw [markEnd]
    omega
theorem markEnd_le : ∀ (l : List Blk) (k : Int), (∀ b ∈ l, b.rows.length ≤ 1048576) → markEnd k l ≤ k + (l.length : Int) * 5242881
  | [], k, _ => by simp [markEnd]
  | b :: l, k, h => by
    have h1 := h b (by simp)
    have h2 := markEnd_le l (k + 1 + 5 * (b.rows.length : Int)) (fun x hx => h x (by simp [hx]))
    rw [markEnd, List.length_cons]
    have e : ((l.length + 1 : Nat) : Int) * 5242881 = (l.length : Int) * 5242881 + 5242881 := by omega
    omega
theorem markBlks_at (p : List Blk) (b : Blk) (q : List Blk) (k : Int) (h : p.length < (markBlks k (p ++ b :: q)).length) : (markBlks k (p ++ b :: q))[p.length] = ⟨markEnd k p, marks (markEnd k p + 1) b.rows.length⟩ := by
  have e : markBlks k (p ++ b :: q) = markBlks k p ++ (⟨markEnd k p, marks (markEnd k p + 1) b.rows.length⟩ :: markBlks (markEnd k p + 1 + 5 * (b.rows.length : Int)) q) := by rw [markBlks_app, markBlks]
  have : ∀ (X : List Blk) (hx : p.length < X.length), X = markBlks k p ++ (⟨markEnd k p, marks (markEnd k p + 1) b.rows.length⟩ :: markBlks (markEnd k p + 1 + 5 * (b.rows.length : Int)) q) → X[p.length] = ⟨markEnd k p, marks (markEnd k p + 1) b.rows.length⟩ := fun X hx eX => by
    subst eX
    rw [List.getElem_append_right (by rw [markBlks_len]; exact Nat.le_refl _)]
    simp [markBlks_len]
  exact this _ h e

/-- A store ahead of the elements. -/
theorem Elems.set_front {α : Type} {E : Ty α} {w : World} {g : Nat} {u : Value} {o : Nat} : ∀ {l : List α} {k : Nat} {f : List Nat}, Elems E w g k l f → o < k * E.size → g ∉ f → Elems E (w.setCell ⟨g, o, none⟩ u) g k l f
  | [], _, _, h, _, _ => h
  | x :: l, k, f, ⟨cs, f1, f2, e, hc, h1, h2⟩, ho, hg => by
    subst e
    refine ⟨cs, f1, f2, rfl, fun j hj => ?_, E.keep h1 (fun b hb => Below.heap_setCell _ _ _ _ (fun e => hg (by have e' : b = g := e; rw [← e']; simp [hb]))), Elems.set_front h2 (by rw [Nat.add_mul, Nat.one_mul]; omega) (fun h => hg (by simp [h]))⟩
    rw [World.cell?_setCell_other (w := w) (a := ⟨g, o, none⟩) (b := ⟨g, k * E.size + j, none⟩) (v := u) (fun e => ?_)]
    · exact hc j hj
    · simp only [Addr.mk.injEq, true_and, and_true] at e
      omega

/-- Blocks half marked: p is, q is not. -/
def MkInv (W w : World) (g N : Nat) (k0 : Int) (p q : List Blk) (f1 f2 : List Nat) : Prop :=
  Chg (g :: (f1 ++ f2)) W w ∧ OwnBlk w g (N * 2) ∧ Elems blkTy w g 0 (markBlks k0 p) f1 ∧ Elems blkTy w g p.length q f2 ∧ (g :: (f1 ++ f2)).Nodup
theorem MkInv.step {W w w1 : World} {g N : Nat} {k0 : Int} {p q : List Blk} {b : Blk} {f1 fa fb : List Nat} {v : Value} (h : MkInv W w g N k0 p (b :: q) f1 (fa ++ fb)) (hc1 : w.cell? ⟨g, p.length * 2 + 1, none⟩ = some v) (hlt : p.length < N) (hq : Elems blkTy w g (p.length + 1) q fb)
    (hc : Chg fa (w.setCell ⟨g, p.length * 2, none⟩ (.int .i64 (markEnd k0 p))) w1) (hs : SliceRep rowTy w1 v (marks (markEnd k0 p + 1) b.rows.length) fa) : MkInv W w1 g N k0 (p ++ [b]) q (f1 ++ fa) fb := by
  obtain ⟨h1, h2, h3, h4, h5⟩ := h
  have hnd := List.nodup_cons.1 h5
  have hga : g ∉ fa := fun e => hnd.1 (by simp [e])
  have hg1 : g ∉ f1 := fun e => hnd.1 (by simp [e])
  have hgb : g ∉ fb := fun e => hnd.1 (by simp [e])
  have hn2 := List.nodup_append.1 hnd.2
  have hd1 : ∀ k ∈ f1, k ∉ fa := fun k hk hka => hn2.2.2 k hk k (by simp [hka]) rfl
  have hn3 := List.nodup_append.1 hn2.2.1
  have hdb : ∀ k ∈ fb, k ∉ fa := fun k hk hka => hn3.2.2 k hka k hk rfl
  have hgs : g < (w.setCell ⟨g, p.length * 2, none⟩ (.int .i64 (markEnd k0 p))).heap.size := by simpa using h2.1
  have hgk := hc.block g hgs hga
  have hlen : (markBlks k0 p).length = p.length := markBlks_len p k0
  have pre := (h3.set (u := .int .i64 (markEnd k0 p)) (o := p.length * 2) (by rw [Nat.zero_add, hlen]; exact Nat.le_refl _) hg1)
  have pre1 := Elems.keep hgk pre (fun k hk => hc.block k (pre.lt k hk) (hd1 k hk))
  have post := (hq.set_front (u := .int .i64 (markEnd k0 p)) (o := p.length * 2) (by show p.length * 2 < (p.length + 1) * 2; omega) hgb)
  have post1 := Elems.keep hgk post (fun k hk => hc.block k (post.lt k hk) (hdb k hk))
  refine ⟨?_, (h2.set _ _).keep hgk, ?_, by rw [List.length_append]; exact post1, by rw [List.append_assoc]; exact h5⟩
  · rw [List.append_assoc]
    exact (h1.set (by simp) _).trans (hc.mono (fun k hk => by simp [hk]))
  · rw [markBlks_app]
    refine pre1.snoc (x := ⟨markEnd k0 p, marks (markEnd k0 p + 1) b.rows.length⟩) (cs := [.int .i64 (markEnd k0 p), v]) (fun j hj => ?_) ⟨v, rfl, hs⟩
    rw [Nat.zero_add, hlen]
    have hk2 := fun (a : Addr) (ha : a.block = g) => World.cell?_of_block (w := w1) (w' := w.setCell ⟨g, p.length * 2, none⟩ (.int .i64 (markEnd k0 p))) (a := a) (by rw [ha]; exact hgk.symm)
    match j, hj with
    | 0, _ =>
      show w1.cell? ⟨g, p.length * 2 + 0, none⟩ = _
      rw [← hk2 _ rfl]
      exact set_same (h2.2 (p.length * 2) (by omega)).1
    | 1, _ =>
      show w1.cell? ⟨g, p.length * 2 + 1, none⟩ = _
      rw [← hk2 _ rfl, set_other (by omega)]
      exact hc1
    | j + 2, hj => exact absurd (show j + 2 < 2 from hj) (by omega)

set_option maxRecDepth 8000 in
set_option maxHeartbeats 3200000 in
theorem law_markBlksO (v : Value) (l : List Blk) (fp : List Nat) (k0 : Int) (w : World) (hn : l.length ≤ 1048576) (hE : markEnd k0 l ≤ 1099511627776) (hk0 : 0 ≤ k0) (hv : SliceRep blkTy w v l fp) (hnd : fp.Nodup) :
    Calls Try.prog 89 #[v, .int .i64 k0] w fun e w' => e = .returned (.int .i64 (markEnd k0 l)) ∧ Chg fp w w' ∧ SliceRep blkTy w' v (markBlks k0 l) fp := by
  have hnI : (l.length : Int) ≤ 1048576 := by omega
  rcases hv with ⟨rfl, rfl, hv⟩ | ⟨g, cap, f, rfl, hc, ho, he, rfl⟩
  · have hv' := hv
    obtain ⟨ao, cap, rfl⟩ : ∃ ao cap, v = .slice ao 0 cap := by rcases hv with rfl | ⟨ad, cap, rfl⟩ <;> exact ⟨_, _, rfl⟩
    have HV := Lib.hid hv'
    clear hv hv' hnd hE
    go_enter Try.func89, Try.ntmps89
    go_wp2
    refine wp_loop_rounds 1 ?_
    rw [rounds_succ]
    go_wp2
    go_ret
    exact ⟨rfl, Chg.refl _ _, .inl ⟨rfl, rfl, HV.out⟩⟩
  · obtain ⟨N, hN⟩ : ∃ N, N = l.length := ⟨_, rfl⟩
    have HR := Lib.hid hE
    have HN := Lib.hid hN
    have HC := Lib.hid (show N ≤ cap by omega)
    have H0 := Lib.hid (show MkInv w w g N k0 [] l [] f from ⟨Chg.refl _ _, by rw [hN]; exact ho, rfl, he, hnd⟩)
    rw [← hN] at hnI ⊢
    clear ho he hnd hE hn hN hc
    go_enter Try.func89, Try.ntmps89
    go_wp2_with fail
    go_loopw [1, 5] (fun kv iv wr => ∃ (p q : List Blk) (f1 f2 : List Nat) (P : Nat) (K : Int), Hid (P = p.length) ∧ P ≤ N ∧ iv = .int .i64 P ∧ kv = .int .i64 K ∧ 0 ≤ K ∧ Hid (K = markEnd k0 p) ∧ Hid (l = p ++ q) ∧ Hid (f = f1 ++ f2) ∧ Hid (MkInv w wr g N k0 p q f1 f2)) (fun _ iv _ => N - (intOf iv).toNat)
    case atStart => exact ⟨[], l, [], f, 0, k0, Lib.hid rfl, Nat.zero_le _, rfl, rfl, hk0, Lib.hid rfl, Lib.hid rfl, Lib.hid rfl, H0⟩
    case round =>
      clear H0
      obtain ⟨p, q, f1, f2, P, K, HP, hPN, rfl, rfl, hK0, HK, HL, HF, HM⟩ := hrel
      by_cases hlt : P < N
      · have hltI : (P : Int) < (N : Int) := by omega
        have hq : q ≠ [] := fun e => by have h1 := HN.out; have h2 := HP.out; rw [HL.out, e, List.append_nil] at h1; omega
        obtain ⟨b, q', rfl⟩ := List.exists_cons_of_ne_nil hq
        obtain ⟨h1, h2, h3, h4, h5⟩ := HM.out
        obtain ⟨cs, fa, fb, hf2, hcs, ⟨vb, rfl, hsl⟩, hrest⟩ := h4
        subst hf2
        have hrl : K + 1 + 5 * (b.rows.length : Int) ≤ 1099511627776 := by
          have h1 := HR.out
          rw [HL.out, markEnd_app, ← HK.out, markEnd] at h1
          have h2 := markEnd_ge q' (K + 1 + 5 * (b.rows.length : Int))
          omega
        have hcs0 := hcs 0 (by simp)
        have hcs1 := hcs 1 (by simp)
        have c0 : wr.cell? ⟨g, P * 2, none⟩ = some (.int .i64 b.id) := by rw [HP.out]; exact hcs0
        have c1 : wr.cell? ⟨g, P * 2 + 1, none⟩ = some vb := by rw [HP.out]; exact hcs1
        have fz := (h2.2 (P * 2) (by omega)).2
        have hgl := h2.1
        have hga : ∀ k ∈ fa, k ≠ g := fun k hk e => (List.nodup_cons.1 h5).1 (by rw [← e]; simp [hk])
        have SL := Lib.hid (hsl.set ⟨g, P * 2, none⟩ (.int .i64 K) hga)
        have ST := Lib.hid (fun w1 (hc : Chg fa (wr.setCell ⟨g, P * 2, none⟩ (.int .i64 K)) w1) (hs : SliceRep rowTy w1 vb (marks (K + 1) b.rows.length) fa) => MkInv.step (N := N) HM.out (by rw [← HP.out]; exact c1) (by have := HP.out; omega) hrest (by rw [← HP.out, ← HK.out]; exact hc) (by rw [← HK.out]; exact hs))
        have HK2 := Lib.hid (show K + 1 + 5 * (b.rows.length : Int) = markEnd k0 (p ++ [b]) by rw [markEnd_app, ← HK.out]; rfl)
        have HL2 := Lib.hid (show l = (p ++ [b]) ++ q' by rw [HL.out, List.append_assoc]; rfl)
        have HF2 := Lib.hid (show f = (f1 ++ fa) ++ fb by rw [HF.out, List.append_assoc])
        obtain ⟨m, hm⟩ : ∃ m, m = b.rows.length := ⟨_, rfl⟩
        obtain ⟨vo, vc, rfl⟩ := hsl.val
        rw [← hm] at hrl HK2 c1 SL ST
        have HM2 := Lib.hid hm
        have hwK : IntKind.i64.wrap (K + 1) = K + 1 := IntWalk.i64_in _ (by omega)
        clear h1 h2 h3 h5 hcs hsl hrest hcs0 hcs1 hq hga hm
        go_wp2_with fail
        refine (law_markRsV _ b.rows fa (K + 1) _ (by have := HM2.out; omega) (by omega) (by omega) SL.out).mono ?_
        rintro e w1 ⟨rfl, hcg, hs⟩
        have HI := Lib.hid (ST.out w1 hcg (by rw [← HM2.out] at hs; exact hs))
        rw [← HM2.out]
        clear hcg hs c0 c1 fz hgl SL ST
        go_wp2
        go_roundw
        case rel => exact ⟨p ++ [b], q', f1 ++ fa, fb, P + 1, K + 1 + 5 * (m : Int), Lib.hid (by rw [List.length_append, HP.out]; rfl), by omega, by go_num, rfl, by omega, HK2, HL2, HF2, HI⟩
        case measure => simp [intOf]; omega
      · obtain rfl : P = N := by omega
        have hsd : decide ((P : Int) < (P : Int)) = false := decide_eq_false (by omega)
        have hq : q = [] := by
          have := HN.out
          have h2 := HP.out
          rw [HL.out, List.length_append] at this
          exact List.eq_nil_of_length_eq_zero (by omega)
        subst hq
        have AN := Lib.hid (show K = markEnd k0 l by rw [HL.out, List.append_nil]; exact HK.out)
        have RP := Lib.hid (show Chg (g :: f) w wr ∧ SliceRep blkTy wr (.slice (some ⟨g, 0, none⟩) P cap) (markBlks k0 l) (g :: f) from by
          obtain ⟨h1, h2, h3, h4, h5⟩ := HM.out
          have h4' : f2 = [] := h4
          have e1 : f = f1 := by rw [HF.out, h4', List.append_nil]
          have e2 : p = l := by rw [HL.out, List.append_nil]
          rw [h4', List.append_nil, ← e1] at h1
          rw [e2, ← e1] at h3
          have hlen : (markBlks k0 l).length = P := by rw [markBlks_len]; exact HN.out.symm
          exact ⟨h1, .inr ⟨g, cap, f, by rw [hlen], by rw [hlen]; exact HC.out, by rw [hlen]; exact h2, h3, rfl⟩⟩)
        go_wp2
        go_ret
        exact ⟨by rw [← AN.out]; rfl, RP.out⟩
set_option maxRecDepth 8000 in
set_option maxHeartbeats 3200000 in
theorem law_heldBlksO (v : Value) (l : List Blk) (fp : List Nat) (k0 : Int) (w : World) (hn : l.length ≤ 1048576) (hE : markEnd k0 l ≤ 1099511627776) (hk0 : 0 ≤ k0) (hv : SliceRep blkTy w v (markBlks k0 l) fp) :
    Calls Try.prog 90 #[v, .int .i64 k0] w fun e w' => e = .returned (.int .i64 (markEnd k0 l)) ∧ w = w' := by
  have hnI : (l.length : Int) ≤ 1048576 := by omega
  rcases hv with ⟨hl0, rfl, hv⟩ | ⟨g, cap, f, rfl, hc, ho, he, rfl⟩
  · have hv' := hv
    obtain ⟨ao, cap, rfl⟩ : ∃ ao cap, v = .slice ao 0 cap := by rcases hv with rfl | ⟨ad, cap, rfl⟩ <;> exact ⟨_, _, rfl⟩
    obtain rfl : l = [] := by
      have := congrArg List.length hl0
      rw [markBlks_len] at this
      exact List.eq_nil_of_length_eq_zero this
    clear hv hv' hE
    go_enter Try.func90, Try.ntmps90
    go_wp2
    refine wp_loop_rounds 1 ?_
    rw [rounds_succ]
    go_wp2
    go_ret
    exact ⟨rfl, rfl⟩
  · rw [markBlks_len] at ho hc ⊢
    obtain ⟨N, hN⟩ : ∃ N, N = l.length := ⟨_, rfl⟩
    have HR := Lib.hid hE
    have HN := Lib.hid hN
    have HE := Lib.hid he
    rw [← hN] at hnI ho hc ⊢
    clear he hE hn hN ho hc
    go_enter Try.func90, Try.ntmps90
    go_wp2_with fail
    go_loop [1, 5] (fun kv iv => ∃ (p q : List Blk) (P : Nat) (K : Int), Hid (P = p.length) ∧ P ≤ N ∧ iv = .int .i64 P ∧ kv = .int .i64 K ∧ 0 ≤ K ∧ Hid (K = markEnd k0 p) ∧ Hid (l = p ++ q)) (fun _ iv => N - (intOf iv).toNat)
    case atStart => exact ⟨[], l, 0, k0, Lib.hid rfl, Nat.zero_le _, rfl, rfl, hk0, Lib.hid rfl, Lib.hid rfl⟩
    case round =>
      obtain ⟨p, q, P, K, HP, hPN, rfl, rfl, hK0, HK, HL⟩ := hrel
      by_cases hlt : P < N
      · have hltI : (P : Int) < (N : Int) := by omega
        have hq : q ≠ [] := fun e => by have h1 := HN.out; have h2 := HP.out; rw [HL.out, e, List.append_nil] at h1; omega
        obtain ⟨b, q', rfl⟩ := List.exists_cons_of_ne_nil hq
        have hPl : p.length < (markBlks k0 l).length := by rw [markBlks_len]; have := HN.out; have := HP.out; omega
        obtain ⟨cs, f', hcs, hx, _⟩ := HE.out.get p.length hPl
        have hat : (markBlks k0 l)[p.length] = ⟨markEnd k0 p, marks (markEnd k0 p + 1) b.rows.length⟩ := by
          have := HL.out
          subst this
          exact markBlks_at p b q' k0 hPl
        rw [hat, ← HK.out] at hx
        obtain ⟨vb, rfl, hsl⟩ := hx
        rw [Nat.zero_add, ← HP.out] at hcs
        have c0 : w.cell? ⟨g, P * 2, none⟩ = some (.int .i64 K) := hcs 0 (by simp)
        have c1 : w.cell? ⟨g, P * 2 + 1, none⟩ = some vb := hcs 1 (by simp)
        have hrl : K + 1 + 5 * (b.rows.length : Int) ≤ 1099511627776 := by
          have h1 := HR.out
          rw [HL.out, markEnd_app, ← HK.out, markEnd] at h1
          have h2 := markEnd_ge q' (K + 1 + 5 * (b.rows.length : Int))
          omega
        have SL := Lib.hid hsl
        have HK2 := Lib.hid (show K + 1 + 5 * (b.rows.length : Int) = markEnd k0 (p ++ [b]) by rw [markEnd_app, ← HK.out]; rfl)
        have HL2 := Lib.hid (show l = (p ++ [b]) ++ q' by rw [HL.out, List.append_assoc]; rfl)
        obtain ⟨vo, vc, rfl⟩ := hsl.val
        rw [marks_len] at c1 SL
        obtain ⟨m, hm⟩ : ∃ m, m = b.rows.length := ⟨_, rfl⟩
        rw [← hm] at hrl HK2 c1 SL
        have hwK : IntKind.i64.wrap (K + 1) = K + 1 := IntWalk.i64_in _ (by omega)
        have q0 : (K != K) = false := bne_self_eq_false _
        have z0 : ¬ K + 1 + 5 * (m : Int) < 0 := by omega
        have z1 : decide (K + 1 + 5 * (m : Int) < 0) = false := decide_eq_false z0
        clear hcs hsl hq hm hat hPl
        go_wp2_with fail
        refine (law_heldRsV _ m f' (K + 1) _ (by omega) (by omega) (by omega) SL.out).mono ?_
        rintro e w1 ⟨rfl, rfl⟩
        clear c0 c1 SL
        go_wp2
        go_round
        case rel => exact ⟨p ++ [b], q', P + 1, K + 1 + 5 * (m : Int), Lib.hid (by rw [List.length_append, HP.out]; rfl), by omega, by go_num, rfl, by omega, HK2, HL2⟩
        case measure => simp [intOf]; omega
      · obtain rfl : P = N := by omega
        have hsd : decide ((P : Int) < (P : Int)) = false := decide_eq_false (by omega)
        have hq : q = [] := by
          have := HN.out
          have h2 := HP.out
          rw [HL.out, List.length_append] at this
          exact List.eq_nil_of_length_eq_zero (by omega)
        subst hq
        have AN := Lib.hid (show K = markEnd k0 l by rw [HL.out, List.append_nil]; exact HK.out)
        go_wp2
        go_ret
        exact ⟨by rw [← AN.out]; rfl, rfl⟩

set_option maxRecDepth 8000 in
theorem law_markTblO (ver : Int) (v : Value) (l : List Blk) (fp : List Nat) (k0 : Int) (w : World) (hn : l.length ≤ 1048576) (hE : markEnd k0 l ≤ 1099511627776) (hk0 : 0 ≤ k0) (hv : SliceRep blkTy w v l fp) (hnd : fp.Nodup) :
    Calls Try.prog 19 #[.agg #[.int .i64 ver, v], .int .i64 k0] w fun e w' => e = .returned (.int .i64 (markEnd k0 l)) ∧ Chg fp w w' ∧ SliceRep blkTy w' v (markBlks k0 l) fp := by
  obtain ⟨ao, cap, rfl⟩ := hv.val
  have HV := Lib.hid hv
  have HD := Lib.hid hnd
  have HE := Lib.hid hE
  clear hv hnd hE
  obtain ⟨n, hn'⟩ : ∃ n, n = l.length := ⟨_, rfl⟩
  have HN := Lib.hid hn'
  rw [← hn'] at HV ⊢
  clear hn'
  go_enter Try.func19, Try.ntmps19
  go_wp2_with fail
  have K0 := (Kept.start w).alloc2 (.int .i64 ver) (.slice ao n cap) 32 _ rfl
  refine (law_markBlksO _ l fp k0 _ hn HE.out hk0 (HV.out.step K0.1) HD.out).mono ?_
  rintro e w1 ⟨rfl, hc, hs⟩
  have AN := Lib.hid (show Chg fp w w1 ∧ SliceRep blkTy w1 (.slice ao n cap) (markBlks k0 l) fp from ⟨(Chg.of K0.1).trans hc, hs⟩)
  clear hc hs K0
  go_wp2
  go_ret
  exact ⟨rfl, AN.out⟩

set_option maxRecDepth 8000 in
theorem law_heldTblO (ver : Int) (v : Value) (l : List Blk) (fp : List Nat) (k0 : Int) (w : World) (hn : l.length ≤ 1048576) (hE : markEnd k0 l ≤ 1099511627776) (hk0 : 0 ≤ k0) (hv : SliceRep blkTy w v (markBlks k0 l) fp) :
    Calls Try.prog 20 #[.agg #[.int .i64 ver, v], .int .i64 k0] w fun e w' => e = .returned (.int .i64 (markEnd k0 l)) ∧ Below w.heap.size w w' := by
  obtain ⟨ao, cap, rfl⟩ := hv.val
  have HV := Lib.hid hv
  have HE := Lib.hid hE
  have z := markEnd_ge l k0
  clear hv hE
  obtain ⟨q, hq⟩ : ∃ q, q = markEnd k0 l := ⟨_, rfl⟩
  rw [← hq] at z ⊢
  have z0 : ¬ q < 0 := by omega
  have zd : decide (q < 0) = false := decide_eq_false z0
  have HQ := Lib.hid hq
  obtain ⟨n, hn'⟩ : ∃ n, n = (markBlks k0 l).length := ⟨_, rfl⟩
  rw [← hn'] at HV ⊢
  clear hq hn'
  go_enter Try.func20, Try.ntmps20
  go_wp2_with fail
  have K0 := (Kept.start w).alloc2 (.int .i64 ver) (.slice ao n cap) 32 _ rfl
  refine (law_heldBlksO _ l fp k0 _ hn HE.out hk0 (HV.out.step K0.1)).mono ?_
  rintro e w1 ⟨rfl, rfl⟩
  rw [← HQ.out]
  go_wp2
  go_ret
  exact ⟨rfl, K0.1⟩
end Go.Proofs.Ytcfcohnkkgickaa
