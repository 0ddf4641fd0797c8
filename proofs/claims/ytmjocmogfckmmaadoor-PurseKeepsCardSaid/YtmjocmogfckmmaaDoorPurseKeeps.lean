/-
  The Go function PurseKeeps returns true: no money is made, or lost: what is paid leaves the total; what is given adds its amount, or nothing: any tree, transaction, box and deposit; its arguments read afterwards as before.
  Conditions: none. The frame around the walk was written by program (proof-skeleton.mjs).
-/
import Derived.Test.YtmjocmogfckmmaaDoorRows
import Derived.Test.YtmjocmogfckmmaaDoorDoor
import Derived.WalkKit
import Derived.ProofKit
import Derived.OpenShut
import Derived.ShutString
import Derived.ChangeOld
import Derived.Below
import Derived.Test.YtmjocmogfckmmaaDoorAlive15
import Derived.Test.YtmjocmogfckmmaaDoorPuB
import Derived.Test.YtmjocmogfckmmaaDoorAcT
import Derived.Test.YtmjocmogfckmmaaDoorRf6
import Derived.Test.YtmjocmogfckmmaaDoorStX
namespace Go.Proofs.YtmjocmogfckmmaaDoor.purseKeeps
open Go.ChangeShapes Go.WideShapes Go.ChangeAt Go.RowKit
open Go.ChangeMaps (open_string shut_string)
set_option linter.unusedVariables false

theorem own : ownKnob Tryd.prog.godebug = none := by kernel_rfl
theorem laidOut : laidOutB Tryd.prog = true := by kernel_rfl

/-- WHAT THE WALK IS TOLD OF A SLICE OF INTEGERS THAT CAME IN: it is nil; or it leads to a row of 'cap' cells, the numbers 'zs' (the first 'len' are its elements, the rest its spare room), each fitting its kind. -/
def IsRow (k : IntKind) (w : World) (a : Option Addr) (len cap : Nat) (zs : List Int) : Prop :=
  (a = none ∧ len = 0 ∧ cap = 0 ∧ zs = []) ∨
  ∃ x, a = some x ∧ len ≤ cap ∧ cap ≤ maxLen ∧ zs.length = cap ∧ (∀ i, i < zs.length → w.cell? (x.add i) = some (.int k (zs.getD i 0))) ∧ ∀ n ∈ zs, (Lit.int k n).wf = true

/-! ### the walk -/
open Go.Proofs.YtmjocmogfckmmaaDoor
theorem boxes4P (w : World) (A : Option Addr) (n c : Nat) (root : Int) (l m q : List Value) (t u v y : TypeId) :
    BoxT ((((w.alloc (.cells #[.slice A n c, .int .i64 root] t)).alloc (.cells l.toArray u)).alloc (.cells m.toArray v)).alloc (.cells q.toArray y)) w.heap.size A n c root ∧
    ((((w.alloc (.cells #[.slice A n c, .int .i64 root] t)).alloc (.cells l.toArray u)).alloc (.cells m.toArray v)).alloc (.cells q.toArray y)).rangeAt (w.heap.size + 1) 0 l ∧
    ((((w.alloc (.cells #[.slice A n c, .int .i64 root] t)).alloc (.cells l.toArray u)).alloc (.cells m.toArray v)).alloc (.cells q.toArray y)).rangeAt (w.heap.size + 1 + 1) 0 m ∧
    ((((w.alloc (.cells #[.slice A n c, .int .i64 root] t)).alloc (.cells l.toArray u)).alloc (.cells m.toArray v)).alloc (.cells q.toArray y)).rangeAt (w.heap.size + 1 + 1 + 1) 0 q ∧
    Below w.heap.size w ((((w.alloc (.cells #[.slice A n c, .int .i64 root] t)).alloc (.cells l.toArray u)).alloc (.cells m.toArray v)).alloc (.cells q.toArray y)) := by
  have h1 := BoxT.new w A n c root t
  have b1 := ext_alloc w (.cells #[.slice A n c, .int .i64 root] t)
  have h2 := rangeOf (heap_alloc_new (w.alloc (.cells #[.slice A n c, .int .i64 root] t)) (.cells l.toArray u))
  have h3 := rangeOf (heap_alloc_new ((w.alloc (.cells #[.slice A n c, .int .i64 root] t)).alloc (.cells l.toArray u)) (.cells m.toArray v))
  have h4 := rangeOf (heap_alloc_new (((w.alloc (.cells #[.slice A n c, .int .i64 root] t)).alloc (.cells l.toArray u)).alloc (.cells m.toArray v)) (.cells q.toArray y))
  simp only [World.size_alloc] at h2 h3 h4
  exact ⟨((h1.bel (ext_alloc _ _)).bel (ext_alloc _ _)).bel (ext_alloc _ _), rangeBel2 (ext_alloc _ _) (rangeBel2 (ext_alloc _ _) h2), rangeBel2 (ext_alloc _ _) h3, h4, ext_trans (ext_trans (ext_trans b1 (ext_alloc _ _)) (ext_alloc _ _)) (ext_alloc _ _)⟩
theorem turns_up {T n : Nat} (hT : T < 340282366920938463463374607431768211456) (hn : n < 18446744073709551616) :
    IntKind.u64.wrap (((T % 18446744073709551616 : Nat) : Int) + (n : Int)) = (((T + n) % 18446744073709551616 : Nat) : Int) ∧
    ((((T + n) % 18446744073709551616 : Nat) : Int) < ((T % 18446744073709551616 : Nat) : Int) → T + n < 340282366920938463463374607431768211456 → IntKind.u64.wrap (((T / 18446744073709551616 : Nat) : Int) + 1) = (((T + n) / 18446744073709551616 : Nat) : Int)) ∧
    (¬ (((T + n) % 18446744073709551616 : Nat) : Int) < ((T % 18446744073709551616 : Nat) : Int) → ((T / 18446744073709551616 : Nat) : Int) = (((T + n) / 18446744073709551616 : Nat) : Int)) := by
  rw [IntKind.wrap_u64, IntKind.wrap_u64]
  refine ⟨?_, fun h1 h2 => ?_, fun h1 => ?_⟩ <;> omega
set_option linter.unusedSimpArgs false
set_option maxRecDepth 100000 in
set_option maxHeartbeats 16000000 in
theorem walk (x0 : Tr) (vs0 : List Value) (x1 : Tx) (vs1 : List Value) (l2 : List UInt8) (x3 : Dp) (vs3 : List Value) (w : World) (w0 : Enc.rep (fun b => b < w.heap.size) w x0 vs0) (w1 : Enc.rep (fun b => b < w.heap.size) w x1 vs1) (w2 : l2.length = 32) (w3 : Enc.rep (fun b => b < w.heap.size) w x3 vs3) (hT : Tab w) :
    Calls Tryd.prog 4 #[.agg vs0.toArray, .agg vs1.toArray, .agg (l2.map bv).toArray, .agg vs3.toArray] w fun e w' => e = .returned (.bool true) ∧ Below w.heap.size w w' := by
  obtain ⟨A0, c0, rfl, hc0, hm0, hr, hI⟩ := rep_tr w0
  obtain ⟨ns, root⟩ := x0
  obtain ⟨rfl, hx⟩ := rep_tx w1
  obtain ⟨box, rfl⟩ : ∃ k : Dg, l2 = k.1 := ⟨⟨l2, w2⟩, rfl⟩
  obtain ⟨rfl, hd⟩ := rep_dp w3
  generalize x1 = xa at *
  generalize x3 = xd at *
  dsimp only at *
  have hcm : ns.length ≤ 9223372036854775807 := by unfold maxLen at hm0; omega
  obtain ⟨T0, Y0, D0, P0, W0⟩ := boxes4P w A0 ns.length c0 root (txC xa) (box.1.map bv) (dpC xd) 27 34 23 38
  have hut := Tryd.underlying27
  have hux := Tryd.underlying34
  have hu := Tryd.underlying23
  have hud := Tryd.underlying38
  have hiT := hid (show (Tryd.prog.info? 27).map (·.size) = some ([Value.slice A0 ns.length c0, .int .i64 root]).length from sizeTr)
  have hiD := hid (sizeDgT box)
  have jxa := hid (sizeTx xa)
  have jxd := hid (sizeDp xd)
  have C0 := BoxD.a (BoxD.of P0)
  have R0 := hid (hr.bel W0)
  have H0 := hid (hT.bel W0 hT.low)
  have hlow := hid hT.low
  obtain ⟨gb, hgb⟩ : ∃ gb, greatT ns 600 = gb := ⟨_, rfl⟩
  have hGr := fun W hW => RGreatT_any (fun b => b < w.heap.size) A0 c0 600 ns root W hW hcm
  rw [hgb] at hGr
  replace hGr := hid hGr
  replace hgb := hid hgb
  replace T0 := hid T0
  replace Y0 := hid Y0
  replace D0 := hid D0
  replace P0 := hid P0
  replace W0 := hid W0
  replace C0 := hid C0
  have hAl := hid (fun W hT => alive15_any W hT)
  clear hT hr w0 w1 w2 w3 hI
  go_enter Tryd.func4, Tryd.ntmps4
  go_wp2_with fail
  generalize (((w.alloc (.cells #[.slice A0 ns.length c0, .int .i64 root] 27)).alloc (.cells (txC xa).toArray 34)).alloc (.cells (box.1.map bv).toArray 23)).alloc (.cells (dpC xd).toArray 38) = w0 at *
  refine (hAl.out _ H0.out).mono ?_
  rintro e w1 ⟨rfl, hb⟩
  have T1 := hid (T0.out.bel hb)
  have Y1 := hid (rangeBel2 hb Y0.out)
  have D1 := hid (rangeBel2 hb D0.out)
  have P1 := hid (rangeBel2 hb P0.out)
  have C1 := hid ((hb.cell (World.block_lt_of_cell? _ _ C0.out)).trans C0.out)
  have R1 := hid (R0.out.bel hb)
  have H1 := hid (H0.out.bel hb (Nat.lt_of_lt_of_le hlow.out W0.out.size))
  have W1 := hid (W0.out.trans (hb.mono W0.out.size))
  clear T0 Y0 D0 P0 C0 R0 H0 W0
  clear hb hAl
  go_wp2_with (first
    | ((with_reducible refine wpList_load_rng rfl 27 (.tmp 4) rfl w.heap.size 0 rfl [Value.slice A0 ns.length c0, .int .i64 root] _ ?_ hut rfl hiT.out ?_); exact T1.out.all))
  refine (hGr.out _ R1.out).mono ?_
  rintro e w2 ⟨rfl, hb⟩
  have T2 := hid (T1.out.bel hb)
  have Y2 := hid (rangeBel2 hb Y1.out)
  have D2 := hid (rangeBel2 hb D1.out)
  have P2 := hid (rangeBel2 hb P1.out)
  have C2 := hid ((hb.cell (World.block_lt_of_cell? _ _ C1.out)).trans C1.out)
  have R2 := hid (R1.out.bel hb)
  have H2 := hid (H1.out.bel hb (Nat.lt_of_lt_of_le hlow.out W1.out.size))
  have W2 := hid (W1.out.trans (hb.mono W1.out.size))
  clear T1 Y1 D1 P1 C1 R1 H1 W1
  clear hb hGr
  cases gb with
  | true =>
    go_wp2
    go_ret
    exact ⟨rfl, W2.out⟩
  | false =>
    obtain ⟨hlen, hvs⟩ := greatT_no hgb.out
    clear hgb hvs
    have hTt := fun W hW => PAcTotal_any (fun b => b < w.heap.size) A0 c0 ns root W hW (by omega)
    obtain ⟨m, hm⟩ : ∃ m, mayA ⟨ns, root⟩ = m := ⟨_, rfl⟩
    rw [hm] at hTt
    cases m with
    | false =>
      have hz : payTE ⟨ns, root⟩ xa = 8 := by unfold payTE; rw [hm]; exact if_neg (by decide)
      have hPy := hid (fun W hW hT => pay_q (fun b => b < w.heap.size) A0 c0 ns root xa box W hx hW (by omega) hT (payTC ⟨ns, root⟩ xa box) 8 (fun _ => True) rfl hz (fun _ _ => trivial))
      simp only [Bool.false_eq_true, if_false] at hTt
      replace hTt := hid hTt
      generalize payTC ⟨ns, root⟩ xa box = gc at *
      clear hm hz
      go_wp2_with (first
        | ((with_reducible refine wpList_load_rng rfl 27 (.tmp 4) rfl w.heap.size 0 rfl [Value.slice A0 ns.length c0, .int .i64 root] _ ?_ hut rfl hiT.out ?_); exact T2.out.all))
      refine (hTt.out _ R2.out).mono ?_
      rintro e w3 ⟨rfl, hb⟩
      have T3 := hid (T2.out.bel hb)
      have Y3 := hid (rangeBel2 hb Y2.out)
      have D3 := hid (rangeBel2 hb D2.out)
      have P3 := hid (rangeBel2 hb P2.out)
      have C3 := hid ((hb.cell (World.block_lt_of_cell? _ _ C2.out)).trans C2.out)
      have R3 := hid (R2.out.bel hb)
      have H3 := hid (H2.out.bel hb (Nat.lt_of_lt_of_le hlow.out W2.out.size))
      have W3 := hid (W2.out.trans (hb.mono W2.out.size))
      clear T2 Y2 D2 P2 C2 R2 H2 W2
      clear hb hTt
      go_wp2_with (first
        | ((with_reducible refine wpList_load_rng rfl 27 (.tmp 4) rfl w.heap.size 0 rfl [Value.slice A0 ns.length c0, .int .i64 root] _ ?_ hut rfl hiT.out ?_); exact T3.out.all)
        | ((with_reducible refine wpList_load_rng rfl 34 (.tmp 5) rfl (w.heap.size + 1) 0 rfl (txC xa) _ ?_ hux rfl jxa.out ?_); exact Y3.out)
        | ((with_reducible refine wpList_load_rng rfl 23 (.tmp 6) rfl (w.heap.size + 1 + 1) 0 rfl (box.1.map bv) _ ?_ hu rfl hiD.out ?_); exact D3.out))
      refine (hPy.out _ R3.out H3.out).mono ?_
      rintro e w4 ⟨⟨na4, ra4⟩, ad4, cd4, rfl, ho, hb, hok4⟩
      dsimp only at ho hok4 ⊢
      have T4 := hid (T3.out.bel hb)
      have Y4 := hid (rangeBel2 hb Y3.out)
      have D4 := hid (rangeBel2 hb D3.out)
      have P4 := hid (rangeBel2 hb P3.out)
      have C4 := hid ((hb.cell (World.block_lt_of_cell? _ _ C3.out)).trans C3.out)
      have R4 := hid (R3.out.bel hb)
      have H4 := hid (H3.out.bel hb (Nat.lt_of_lt_of_le hlow.out W3.out.size))
      have W4 := hid (W3.out.trans (hb.mono W3.out.size))
      clear T3 Y3 D3 P3 C3 R3 H3 W3
      have E4 := hid (OwnR.row ho)
      replace hok4 := hid hok4
      clear hb ho hPy
      have e4 := hid (heap_alloc_new w4 (.cells zTrC 27))
      have hiF := hid (show (Tryd.prog.info? 27).map (·.size) = some ([Value.slice ad4 na4.length cd4, .int .i64 ra4]).length from sizeTr)
      go_wp2_with (first
        | (with_reducible refine wpList_alloc_row rfl 27 rfl zTrC zInfoTr ?_)
        | ((with_reducible refine wpList_store_row rfl 27 (.tmp 13) (.tmp 44) rfl _ _ rfl rfl 27 zTrC ?_ ?_ ?_ ?_ ?_); exact e4.out; exact sizeTr; rfl; exact one_trP ad4 na4.length cd4 ra4; intro w5 hgS hbS hsS; have X5 := hid (xnewP rfl hbS); have lt5 := hid (block_lt hgS); have F5 := hid (BoxT.of (rangeOf (l := [Value.slice ad4 na4.length cd4, .int .i64 ra4]) hgS)); clear hgS hbS hsS; have T5 := hid (T4.out.bel X5.out); have Y5 := hid (rangeBel2 X5.out Y4.out); have D5 := hid (rangeBel2 X5.out D4.out); have P5 := hid (rangeBel2 X5.out P4.out); have C5 := hid ((X5.out.cell (World.block_lt_of_cell? _ _ C4.out)).trans C4.out); have R5 := hid (R4.out.bel X5.out); have H5 := hid (H4.out.bel X5.out (Nat.lt_of_lt_of_le hlow.out W4.out.size)); have W5 := hid (W4.out.trans (X5.out.mono W4.out.size)); have E5 := hid (E4.out.bel X5.out); clear T4 Y4 D4 P4 C4 R4 H4 W4 E4))
      go_ret
      exact ⟨rfl, W5.out⟩
    | true =>
      simp only [if_true] at hTt
      obtain ⟨TT, hTT⟩ : ∃ T, totP (allT ⟨ns, root⟩) = T := ⟨_, rfl⟩
      have hfit := tot_fits (mayA_both hm).1 (show (⟨ns, root⟩ : Tr).ns.length ≤ 1000000 by dsimp only; omega)
      have hH : totH (allT ⟨ns, root⟩) = TT / 18446744073709551616 := by unfold totH; rw [hTT]
      have hL : totL (allT ⟨ns, root⟩) = TT % 18446744073709551616 := by unfold totL; rw [hTT]
      rw [hTT] at hfit
      rw [hH, hL] at hTt
      have hgz : giveTE ⟨ns, root⟩ = 0 := by rw [giveTE_small (by dsimp only; omega), if_pos hm]
      have hgc : giveTC ⟨ns, root⟩ xd = giveC (allT ⟨ns, root⟩) xd.t xd.a := by unfold giveTC; rw [if_pos hgz]
      have hPy := hid (fun W hW hT => pay_q (fun b => b < w.heap.size) A0 c0 ns root xa box W hx hW (by omega) hT (payTC ⟨ns, root⟩ xa box) (payTE ⟨ns, root⟩ xa) (fun o => payTE ⟨ns, root⟩ xa = 0 → mayA o = true ∧ o.ns.length ≤ 1800 ∧ totP (allT o) = TT) rfl rfl (fun o ho h => ⟨(pay_yes h ho).1, by have := (pay_yes h ho).2.2.1; dsimp only at this; omega, by rw [pay_tot h ho, hTT]⟩))
      have hGv := hid (fun W hW => give_q (fun b => b < w.heap.size) A0 c0 ns root xd W hd hW (by omega) (giveC (allT ⟨ns, root⟩) xd.t xd.a) 0 (fun o => mayA o = true ∧ o.ns.length ≤ 1800 ∧ totP (allT o) = if giveC (allT ⟨ns, root⟩) xd.t xd.a = 0 then TT + xd.a else TT) hgc hgz (fun o ho => ⟨(give_yes hgz ho).1, by have := (give_yes hgz ho).2.2.1; dsimp only at this; omega, by rw [giveS_tot hgz ho, hTT]⟩))
      have hGc : giveC (allT ⟨ns, root⟩) xd.t xd.a = 0 ∨ giveC (allT ⟨ns, root⟩) xd.t xd.a = 151 := by
        unfold giveC
        split
        · exact .inl rfl
        · exact .inr rfl
      have hTo := hid (fun (o : Tr) (F : Nat → Prop) (A : Option Addr) (c : Nat) (W : World) (hW : Row F W A o.ns) (h1 : mayA o = true) (h2 : o.ns.length ≤ 1800) (h l : Int) (hh : ((totP (allT o) / 18446744073709551616 : Nat) : Int) = h) (hl : ((totP (allT o) % 18446744073709551616 : Nat) : Int) = l) => total15_any F A c o.ns o.root h l W hW (by omega) h1 hh hl)
      generalize giveC (allT ⟨ns, root⟩) xd.t xd.a = gc at *
      generalize payTC ⟨ns, root⟩ xa box = pc at *
      generalize payTE ⟨ns, root⟩ xa = pz at *
      replace hTt := hid hTt
      obtain ⟨t1, t2, t3⟩ := turns_up hfit hd.2
      obtain ⟨th, hth⟩ : ∃ h : Int, ((TT / 18446744073709551616 : Nat) : Int) = h := ⟨_, rfl⟩
      obtain ⟨tl, htl⟩ : ∃ h : Int, ((TT % 18446744073709551616 : Nat) : Int) = h := ⟨_, rfl⟩
      rw [hth] at hTt t2 t3
      rw [htl] at hTt t1 t2 t3
      replace hTo := hid hTo
      replace hth := hid hth
      replace htl := hid htl
      replace t2 := hid t2
      replace t3 := hid t3
      clear hm hTT hH hL hgz hgc
      go_wp2_with (first
        | ((with_reducible refine wpList_load_rng rfl 27 (.tmp 4) rfl w.heap.size 0 rfl [Value.slice A0 ns.length c0, .int .i64 root] _ ?_ hut rfl hiT.out ?_); exact T2.out.all))
      refine (hTt.out _ R2.out).mono ?_
      rintro e w3 ⟨rfl, hb⟩
      have T3 := hid (T2.out.bel hb)
      have Y3 := hid (rangeBel2 hb Y2.out)
      have D3 := hid (rangeBel2 hb D2.out)
      have P3 := hid (rangeBel2 hb P2.out)
      have C3 := hid ((hb.cell (World.block_lt_of_cell? _ _ C2.out)).trans C2.out)
      have R3 := hid (R2.out.bel hb)
      have H3 := hid (H2.out.bel hb (Nat.lt_of_lt_of_le hlow.out W2.out.size))
      have W3 := hid (W2.out.trans (hb.mono W2.out.size))
      clear T2 Y2 D2 P2 C2 R2 H2 W2
      clear hb hTt
      go_wp2_with (first
        | ((with_reducible refine wpList_load_rng rfl 27 (.tmp 4) rfl w.heap.size 0 rfl [Value.slice A0 ns.length c0, .int .i64 root] _ ?_ hut rfl hiT.out ?_); exact T3.out.all)
        | ((with_reducible refine wpList_load_rng rfl 34 (.tmp 5) rfl (w.heap.size + 1) 0 rfl (txC xa) _ ?_ hux rfl jxa.out ?_); exact Y3.out)
        | ((with_reducible refine wpList_load_rng rfl 23 (.tmp 6) rfl (w.heap.size + 1 + 1) 0 rfl (box.1.map bv) _ ?_ hu rfl hiD.out ?_); exact D3.out))
      refine (hPy.out _ R3.out H3.out).mono ?_
      rintro e w4 ⟨⟨na4, ra4⟩, ad4, cd4, rfl, ho, hb, hok4⟩
      dsimp only at ho hok4 ⊢
      have T4 := hid (T3.out.bel hb)
      have Y4 := hid (rangeBel2 hb Y3.out)
      have D4 := hid (rangeBel2 hb D3.out)
      have P4 := hid (rangeBel2 hb P3.out)
      have C4 := hid ((hb.cell (World.block_lt_of_cell? _ _ C3.out)).trans C3.out)
      have R4 := hid (R3.out.bel hb)
      have H4 := hid (H3.out.bel hb (Nat.lt_of_lt_of_le hlow.out W3.out.size))
      have W4 := hid (W3.out.trans (hb.mono W3.out.size))
      clear T3 Y3 D3 P3 C3 R3 H3 W3
      have E4 := hid (OwnR.row ho)
      replace hok4 := hid hok4
      clear hb ho hPy
      have e4 := hid (heap_alloc_new w4 (.cells zTrC 27))
      have hiF := hid (show (Tryd.prog.info? 27).map (·.size) = some ([Value.slice ad4 na4.length cd4, .int .i64 ra4]).length from sizeTr)
      go_wp2_with (first
        | (with_reducible refine wpList_alloc_row rfl 27 rfl zTrC zInfoTr ?_)
        | ((with_reducible refine wpList_store_row rfl 27 (.tmp 16) (.tmp 58) rfl _ _ rfl rfl 27 zTrC ?_ ?_ ?_ ?_ ?_); exact e4.out; exact sizeTr; rfl; exact one_trP ad4 na4.length cd4 ra4; intro w5 hgS hbS hsS; have X5 := hid (xnewP rfl hbS); have lt5 := hid (block_lt hgS); have F5 := hid (BoxT.of (rangeOf (l := [Value.slice ad4 na4.length cd4, .int .i64 ra4]) hgS)); clear hgS hbS hsS; have T5 := hid (T4.out.bel X5.out); have Y5 := hid (rangeBel2 X5.out Y4.out); have D5 := hid (rangeBel2 X5.out D4.out); have P5 := hid (rangeBel2 X5.out P4.out); have C5 := hid ((X5.out.cell (World.block_lt_of_cell? _ _ C4.out)).trans C4.out); have R5 := hid (R4.out.bel X5.out); have H5 := hid (H4.out.bel X5.out (Nat.lt_of_lt_of_le hlow.out W4.out.size)); have W5 := hid (W4.out.trans (X5.out.mono W4.out.size)); have E5 := hid (E4.out.bel X5.out); clear T4 Y4 D4 P4 C4 R4 H4 W4 E4)
        | ((with_reducible refine wpList_load_rng rfl 27 (.tmp 4) rfl w.heap.size 0 rfl [Value.slice A0 ns.length c0, .int .i64 root] _ ?_ hut rfl hiT.out ?_); exact T5.out.all)
        | ((with_reducible refine wpList_load_rng rfl 38 (.tmp 7) rfl (w.heap.size + 1 + 1 + 1) 0 rfl (dpC xd) _ ?_ hud rfl jxd.out ?_); exact P5.out))
      refine (hGv.out _ R5.out).mono ?_
      rintro e w6 ⟨⟨na6, ra6⟩, ad6, cd6, rfl, ho, hb, hok6⟩
      dsimp only at ho hok6 ⊢
      have T6 := hid (T5.out.bel hb)
      have Y6 := hid (rangeBel2 hb Y5.out)
      have D6 := hid (rangeBel2 hb D5.out)
      have P6 := hid (rangeBel2 hb P5.out)
      have C6 := hid ((hb.cell (World.block_lt_of_cell? _ _ C5.out)).trans C5.out)
      have R6 := hid (R5.out.bel hb)
      have H6 := hid (H5.out.bel hb (Nat.lt_of_lt_of_le hlow.out W5.out.size))
      have W6 := hid (W5.out.trans (hb.mono W5.out.size))
      have E6 := hid (E5.out.bel hb)
      have F6 := hid (F5.out.bel hb)
      clear T5 Y5 D5 P5 C5 R5 H5 W5 E5 F5
      have G6 := hid (OwnR.row ho)
      replace hok6 := hid hok6
      clear hb ho hGv
      have e6 := hid (heap_alloc_new w6 (.cells zTrC 27))
      have hiV := hid (show (Tryd.prog.info? 27).map (·.size) = some ([Value.slice ad6 na6.length cd6, .int .i64 ra6]).length from sizeTr)
      by_cases hpz : pz = 0
      · subst hpz
        obtain ⟨k1, k2, k3⟩ := hok4.out rfl
        have hU := hid (fun F A c W hW => hTo.out ⟨na4, ra4⟩ F A c W hW k1 k2 th tl (by rw [k3, hth.out]) (by rw [k3, htl.out]))
        dsimp only at hU
        go_wp2_with (first
          | (with_reducible refine wpList_alloc_row rfl 27 rfl zTrC zInfoTr ?_)
          | ((with_reducible refine wpList_store_row rfl 27 (.tmp 19) (.tmp 65) rfl _ _ rfl rfl 27 zTrC ?_ ?_ ?_ ?_ ?_); exact e6.out; exact sizeTr; rfl; exact one_trP ad6 na6.length cd6 ra6; intro w7 hgS hbS hsS; have X7 := hid (xnewP rfl hbS); have lt7 := hid (block_lt hgS); have V7 := hid (BoxT.of (rangeOf (l := [Value.slice ad6 na6.length cd6, .int .i64 ra6]) hgS)); clear hgS hbS hsS; have T7 := hid (T6.out.bel X7.out); have Y7 := hid (rangeBel2 X7.out Y6.out); have D7 := hid (rangeBel2 X7.out D6.out); have P7 := hid (rangeBel2 X7.out P6.out); have C7 := hid ((X7.out.cell (World.block_lt_of_cell? _ _ C6.out)).trans C6.out); have R7 := hid (R6.out.bel X7.out); have H7 := hid (H6.out.bel X7.out (Nat.lt_of_lt_of_le hlow.out W6.out.size)); have W7 := hid (W6.out.trans (X7.out.mono W6.out.size)); have E7 := hid (E6.out.bel X7.out); have F7 := hid (F6.out.bel X7.out); have G7 := hid (G6.out.bel X7.out); clear T6 Y6 D6 P6 C6 R6 H6 W6 E6 F6 G6)
          | ((with_reducible refine wpList_load_rng ?_ 27 (.tmp 16) rfl w4.heap.size 0 rfl [Value.slice ad4 na4.length cd4, .int .i64 ra4] _ ?_ hut rfl hiF.out ?_); rfl; exact F7.out.all))
        refine (hU.out _ ad4 cd4 _ E7.out).mono ?_
        rintro e w8 ⟨rfl, hb⟩
        have T8 := hid (T7.out.bel hb)
        have Y8 := hid (rangeBel2 hb Y7.out)
        have D8 := hid (rangeBel2 hb D7.out)
        have P8 := hid (rangeBel2 hb P7.out)
        have C8 := hid ((hb.cell (World.block_lt_of_cell? _ _ C7.out)).trans C7.out)
        have R8 := hid (R7.out.bel hb)
        have H8 := hid (H7.out.bel hb (Nat.lt_of_lt_of_le hlow.out W7.out.size))
        have W8 := hid (W7.out.trans (hb.mono W7.out.size))
        have E8 := hid (E7.out.bel hb)
        have F8 := hid (F7.out.bel hb)
        have G8 := hid (G7.out.bel hb)
        have V8 := hid (V7.out.bel hb)
        clear T7 Y7 D7 P7 C7 R7 H7 W7 E7 F7 G7 V7
        clear hb hU
        obtain ⟨v1, v2, v3⟩ := hok6.out
        rcases hGc with hg0 | hg1
        · subst hg0
          rw [if_pos rfl] at v3
          have hfit2 := tot_fits (mayA_both v1).1 (by dsimp only; omega)
          rw [v3] at hfit2
          have c8 := C8.out
          obtain ⟨sm, hsm⟩ : ∃ s : Int, (((TT + xd.a) % 18446744073709551616 : Nat) : Int) = s := ⟨_, rfl⟩
          have u2 := t2.out
          have u3 := t3.out
          rw [hsm] at t1 u2 u3
          obtain ⟨cb, hcb⟩ : ∃ b, decide (sm < tl) = b := ⟨_, rfl⟩
          replace hsm := hid hsm
          cases cb
          · have hq := of_decide_eq_false hcb
            have hh := u3 (by first | exact hq | omega)
            clear u2 u3 hq
            have hV := hid (fun F A c W hW => hTo.out ⟨na6, ra6⟩ F A c W hW v1 v2 th sm (by rw [v3, hh]) (by rw [v3, hsm.out]))
            dsimp only at hV
            clear hh
            go_wp2_with (first
              | ((with_reducible refine wpList_load_rng ?_ 27 (.tmp 19) rfl w6.heap.size 0 rfl [Value.slice ad6 na6.length cd6, .int .i64 ra6] _ ?_ hut rfl hiV.out ?_); rfl; exact V8.out.all))
            refine (hV.out _ ad6 cd6 _ G8.out).mono ?_
            rintro e w9 ⟨rfl, hb⟩
            have T9 := hid (T8.out.bel hb)
            have Y9 := hid (rangeBel2 hb Y8.out)
            have D9 := hid (rangeBel2 hb D8.out)
            have P9 := hid (rangeBel2 hb P8.out)
            have C9 := hid ((hb.cell (World.block_lt_of_cell? _ _ C8.out)).trans C8.out)
            have R9 := hid (R8.out.bel hb)
            have H9 := hid (H8.out.bel hb (Nat.lt_of_lt_of_le hlow.out W8.out.size))
            have W9 := hid (W8.out.trans (hb.mono W8.out.size))
            have E9 := hid (E8.out.bel hb)
            have F9 := hid (F8.out.bel hb)
            have G9 := hid (G8.out.bel hb)
            have V9 := hid (V8.out.bel hb)
            clear T8 Y8 D8 P8 C8 R8 H8 W8 E8 F8 G8 V8
            clear hb 
            go_wp2
            go_ret
            exact ⟨rfl, W9.out⟩
          · have hq := of_decide_eq_true hcb
            have hh := u2 (by first | exact hq | omega) hfit2
            clear u2 u3 hq
            obtain ⟨h1, hh1⟩ : ∃ h : Int, IntKind.u64.wrap (th + 1) = h := ⟨_, rfl⟩
            rw [hh1] at hh
            have hV := hid (fun F A c W hW => hTo.out ⟨na6, ra6⟩ F A c W hW v1 v2 h1 sm (by rw [v3, hh]) (by rw [v3, hsm.out]))
            dsimp only at hV
            clear hh
            go_wp2_with (first
              | ((with_reducible refine wpList_load_rng ?_ 27 (.tmp 19) rfl w6.heap.size 0 rfl [Value.slice ad6 na6.length cd6, .int .i64 ra6] _ ?_ hut rfl hiV.out ?_); rfl; exact V8.out.all))
            refine (hV.out _ ad6 cd6 _ G8.out).mono ?_
            rintro e w9 ⟨rfl, hb⟩
            have T9 := hid (T8.out.bel hb)
            have Y9 := hid (rangeBel2 hb Y8.out)
            have D9 := hid (rangeBel2 hb D8.out)
            have P9 := hid (rangeBel2 hb P8.out)
            have C9 := hid ((hb.cell (World.block_lt_of_cell? _ _ C8.out)).trans C8.out)
            have R9 := hid (R8.out.bel hb)
            have H9 := hid (H8.out.bel hb (Nat.lt_of_lt_of_le hlow.out W8.out.size))
            have W9 := hid (W8.out.trans (hb.mono W8.out.size))
            have E9 := hid (E8.out.bel hb)
            have F9 := hid (F8.out.bel hb)
            have G9 := hid (G8.out.bel hb)
            have V9 := hid (V8.out.bel hb)
            clear T8 Y8 D8 P8 C8 R8 H8 W8 E8 F8 G8 V8
            clear hb 
            go_wp2
            go_ret
            exact ⟨rfl, W9.out⟩
        · subst hg1
          rw [if_neg (by decide)] at v3
          have hV := hid (fun F A c W hW => hTo.out ⟨na6, ra6⟩ F A c W hW v1 v2 th tl (by rw [v3, hth.out]) (by rw [v3, htl.out]))
          dsimp only at hV
          go_wp2_with (first
            | ((with_reducible refine wpList_load_rng ?_ 27 (.tmp 19) rfl w6.heap.size 0 rfl [Value.slice ad6 na6.length cd6, .int .i64 ra6] _ ?_ hut rfl hiV.out ?_); rfl; exact V8.out.all))
          refine (hV.out _ ad6 cd6 _ G8.out).mono ?_
          rintro e w9 ⟨rfl, hb⟩
          have T9 := hid (T8.out.bel hb)
          have Y9 := hid (rangeBel2 hb Y8.out)
          have D9 := hid (rangeBel2 hb D8.out)
          have P9 := hid (rangeBel2 hb P8.out)
          have C9 := hid ((hb.cell (World.block_lt_of_cell? _ _ C8.out)).trans C8.out)
          have R9 := hid (R8.out.bel hb)
          have H9 := hid (H8.out.bel hb (Nat.lt_of_lt_of_le hlow.out W8.out.size))
          have W9 := hid (W8.out.trans (hb.mono W8.out.size))
          have E9 := hid (E8.out.bel hb)
          have F9 := hid (F8.out.bel hb)
          have G9 := hid (G8.out.bel hb)
          have V9 := hid (V8.out.bel hb)
          clear T8 Y8 D8 P8 C8 R8 H8 W8 E8 F8 G8 V8
          clear hb 
          go_wp2
          go_ret
          exact ⟨rfl, W9.out⟩
      · have hp1 : (pz == 0) = false := beq_false_of_ne hpz
        obtain ⟨v1, v2, v3⟩ := hok6.out
        rcases hGc with hg0 | hg1
        · subst hg0
          rw [if_pos rfl] at v3
          have hfit2 := tot_fits (mayA_both v1).1 (by dsimp only; omega)
          rw [v3] at hfit2
          obtain ⟨sm, hsm⟩ : ∃ s : Int, (((TT + xd.a) % 18446744073709551616 : Nat) : Int) = s := ⟨_, rfl⟩
          have u2 := t2.out
          have u3 := t3.out
          rw [hsm] at t1 u2 u3
          obtain ⟨cb, hcb⟩ : ∃ b, decide (sm < tl) = b := ⟨_, rfl⟩
          replace hsm := hid hsm
          cases cb
          · have hq := of_decide_eq_false hcb
            have hh := u3 (by first | exact hq | omega)
            clear u2 u3 hq
            have hV := hid (fun F A c W hW => hTo.out ⟨na6, ra6⟩ F A c W hW v1 v2 th sm (by rw [v3, hh]) (by rw [v3, hsm.out]))
            dsimp only at hV
            clear hh
            go_wp2_with (first
              | (with_reducible refine wpList_alloc_row rfl 27 rfl zTrC zInfoTr ?_)
              | ((with_reducible refine wpList_store_row rfl 27 (.tmp 19) (.tmp 65) rfl _ _ rfl rfl 27 zTrC ?_ ?_ ?_ ?_ ?_); exact e6.out; exact sizeTr; rfl; exact one_trP ad6 na6.length cd6 ra6; intro w7 hgS hbS hsS; have X7 := hid (xnewP rfl hbS); have lt7 := hid (block_lt hgS); have V7 := hid (BoxT.of (rangeOf (l := [Value.slice ad6 na6.length cd6, .int .i64 ra6]) hgS)); clear hgS hbS hsS; have T7 := hid (T6.out.bel X7.out); have Y7 := hid (rangeBel2 X7.out Y6.out); have D7 := hid (rangeBel2 X7.out D6.out); have P7 := hid (rangeBel2 X7.out P6.out); have C7 := hid ((X7.out.cell (World.block_lt_of_cell? _ _ C6.out)).trans C6.out); have R7 := hid (R6.out.bel X7.out); have H7 := hid (H6.out.bel X7.out (Nat.lt_of_lt_of_le hlow.out W6.out.size)); have W7 := hid (W6.out.trans (X7.out.mono W6.out.size)); have E7 := hid (E6.out.bel X7.out); have F7 := hid (F6.out.bel X7.out); have G7 := hid (G6.out.bel X7.out); clear T6 Y6 D6 P6 C6 R6 H6 W6 E6 F6 G6; have c7 := C7.out)
              | ((with_reducible refine wpList_load_rng ?_ 27 (.tmp 19) rfl w6.heap.size 0 rfl [Value.slice ad6 na6.length cd6, .int .i64 ra6] _ ?_ hut rfl hiV.out ?_); rfl; exact V7.out.all))
            refine (hV.out _ ad6 cd6 _ G7.out).mono ?_
            rintro e w8 ⟨rfl, hb⟩
            have T8 := hid (T7.out.bel hb)
            have Y8 := hid (rangeBel2 hb Y7.out)
            have D8 := hid (rangeBel2 hb D7.out)
            have P8 := hid (rangeBel2 hb P7.out)
            have C8 := hid ((hb.cell (World.block_lt_of_cell? _ _ C7.out)).trans C7.out)
            have R8 := hid (R7.out.bel hb)
            have H8 := hid (H7.out.bel hb (Nat.lt_of_lt_of_le hlow.out W7.out.size))
            have W8 := hid (W7.out.trans (hb.mono W7.out.size))
            have E8 := hid (E7.out.bel hb)
            have F8 := hid (F7.out.bel hb)
            have G8 := hid (G7.out.bel hb)
            have V8 := hid (V7.out.bel hb)
            clear T7 Y7 D7 P7 C7 R7 H7 W7 E7 F7 G7 V7
            clear hb 
            go_wp2
            go_ret
            exact ⟨rfl, W8.out⟩
          · have hq := of_decide_eq_true hcb
            have hh := u2 (by first | exact hq | omega) hfit2
            clear u2 u3 hq
            obtain ⟨h1, hh1⟩ : ∃ h : Int, IntKind.u64.wrap (th + 1) = h := ⟨_, rfl⟩
            rw [hh1] at hh
            have hV := hid (fun F A c W hW => hTo.out ⟨na6, ra6⟩ F A c W hW v1 v2 h1 sm (by rw [v3, hh]) (by rw [v3, hsm.out]))
            dsimp only at hV
            clear hh
            go_wp2_with (first
              | (with_reducible refine wpList_alloc_row rfl 27 rfl zTrC zInfoTr ?_)
              | ((with_reducible refine wpList_store_row rfl 27 (.tmp 19) (.tmp 65) rfl _ _ rfl rfl 27 zTrC ?_ ?_ ?_ ?_ ?_); exact e6.out; exact sizeTr; rfl; exact one_trP ad6 na6.length cd6 ra6; intro w7 hgS hbS hsS; have X7 := hid (xnewP rfl hbS); have lt7 := hid (block_lt hgS); have V7 := hid (BoxT.of (rangeOf (l := [Value.slice ad6 na6.length cd6, .int .i64 ra6]) hgS)); clear hgS hbS hsS; have T7 := hid (T6.out.bel X7.out); have Y7 := hid (rangeBel2 X7.out Y6.out); have D7 := hid (rangeBel2 X7.out D6.out); have P7 := hid (rangeBel2 X7.out P6.out); have C7 := hid ((X7.out.cell (World.block_lt_of_cell? _ _ C6.out)).trans C6.out); have R7 := hid (R6.out.bel X7.out); have H7 := hid (H6.out.bel X7.out (Nat.lt_of_lt_of_le hlow.out W6.out.size)); have W7 := hid (W6.out.trans (X7.out.mono W6.out.size)); have E7 := hid (E6.out.bel X7.out); have F7 := hid (F6.out.bel X7.out); have G7 := hid (G6.out.bel X7.out); clear T6 Y6 D6 P6 C6 R6 H6 W6 E6 F6 G6; have c7 := C7.out)
              | ((with_reducible refine wpList_load_rng ?_ 27 (.tmp 19) rfl w6.heap.size 0 rfl [Value.slice ad6 na6.length cd6, .int .i64 ra6] _ ?_ hut rfl hiV.out ?_); rfl; exact V7.out.all))
            refine (hV.out _ ad6 cd6 _ G7.out).mono ?_
            rintro e w8 ⟨rfl, hb⟩
            have T8 := hid (T7.out.bel hb)
            have Y8 := hid (rangeBel2 hb Y7.out)
            have D8 := hid (rangeBel2 hb D7.out)
            have P8 := hid (rangeBel2 hb P7.out)
            have C8 := hid ((hb.cell (World.block_lt_of_cell? _ _ C7.out)).trans C7.out)
            have R8 := hid (R7.out.bel hb)
            have H8 := hid (H7.out.bel hb (Nat.lt_of_lt_of_le hlow.out W7.out.size))
            have W8 := hid (W7.out.trans (hb.mono W7.out.size))
            have E8 := hid (E7.out.bel hb)
            have F8 := hid (F7.out.bel hb)
            have G8 := hid (G7.out.bel hb)
            have V8 := hid (V7.out.bel hb)
            clear T7 Y7 D7 P7 C7 R7 H7 W7 E7 F7 G7 V7
            clear hb 
            go_wp2
            go_ret
            exact ⟨rfl, W8.out⟩
        · subst hg1
          rw [if_neg (by decide)] at v3
          have hV := hid (fun F A c W hW => hTo.out ⟨na6, ra6⟩ F A c W hW v1 v2 th tl (by rw [v3, hth.out]) (by rw [v3, htl.out]))
          dsimp only at hV
          go_wp2_with (first
            | (with_reducible refine wpList_alloc_row rfl 27 rfl zTrC zInfoTr ?_)
            | ((with_reducible refine wpList_store_row rfl 27 (.tmp 19) (.tmp 65) rfl _ _ rfl rfl 27 zTrC ?_ ?_ ?_ ?_ ?_); exact e6.out; exact sizeTr; rfl; exact one_trP ad6 na6.length cd6 ra6; intro w7 hgS hbS hsS; have X7 := hid (xnewP rfl hbS); have lt7 := hid (block_lt hgS); have V7 := hid (BoxT.of (rangeOf (l := [Value.slice ad6 na6.length cd6, .int .i64 ra6]) hgS)); clear hgS hbS hsS; have T7 := hid (T6.out.bel X7.out); have Y7 := hid (rangeBel2 X7.out Y6.out); have D7 := hid (rangeBel2 X7.out D6.out); have P7 := hid (rangeBel2 X7.out P6.out); have C7 := hid ((X7.out.cell (World.block_lt_of_cell? _ _ C6.out)).trans C6.out); have R7 := hid (R6.out.bel X7.out); have H7 := hid (H6.out.bel X7.out (Nat.lt_of_lt_of_le hlow.out W6.out.size)); have W7 := hid (W6.out.trans (X7.out.mono W6.out.size)); have E7 := hid (E6.out.bel X7.out); have F7 := hid (F6.out.bel X7.out); have G7 := hid (G6.out.bel X7.out); clear T6 Y6 D6 P6 C6 R6 H6 W6 E6 F6 G6; have c7 := C7.out)
            | ((with_reducible refine wpList_load_rng ?_ 27 (.tmp 19) rfl w6.heap.size 0 rfl [Value.slice ad6 na6.length cd6, .int .i64 ra6] _ ?_ hut rfl hiV.out ?_); rfl; exact V7.out.all))
          refine (hV.out _ ad6 cd6 _ G7.out).mono ?_
          rintro e w8 ⟨rfl, hb⟩
          have T8 := hid (T7.out.bel hb)
          have Y8 := hid (rangeBel2 hb Y7.out)
          have D8 := hid (rangeBel2 hb D7.out)
          have P8 := hid (rangeBel2 hb P7.out)
          have C8 := hid ((hb.cell (World.block_lt_of_cell? _ _ C7.out)).trans C7.out)
          have R8 := hid (R7.out.bel hb)
          have H8 := hid (H7.out.bel hb (Nat.lt_of_lt_of_le hlow.out W7.out.size))
          have W8 := hid (W7.out.trans (hb.mono W7.out.size))
          have E8 := hid (E7.out.bel hb)
          have F8 := hid (F7.out.bel hb)
          have G8 := hid (G7.out.bel hb)
          have V8 := hid (V7.out.bel hb)
          clear T7 Y7 D7 P7 C7 R7 H7 W7 E7 F7 G7 V7
          clear hb 
          go_wp2
          go_ret
          exact ⟨rfl, W8.out⟩

/-! ### WHAT THE WALK GIVES, FOR EVERY ARGUMENT AND EVERY WORLD THAT HOLDS THE TABLE -/
set_option maxRecDepth 100000 in
theorem contract (H : Type) (enc : TypeId × Value → H) (W : World) (base : Nat) (args : Array Value) (ds gs : List (DataW H)) (before : List MemPlace)
    (hval0 : ∀ (j : Nat) t v, Tryd.f4.params[j]? = some t → args[j]? = some v → Value.okWide Tryd.prog W .any base t v)
    (hW : DataW.Whole enc Tryd.prog Tryd.f4.params.toList Rows.purseKeepsSpec.vars false W args.toList ds gs before) (hL : laidMetH Tryd.prog Rows.purseKeepsRow.laid W) :
    Calls Tryd.prog 4 args W fun e W' => ∃ v, e = .returned v ∧ Rows.purseKeepsSpec.post enc Tryd.prog Tryd.f4 false true false false W args v W' := by
  have hval : ∀ (j : Nat) t v, Tryd.f4.params[j]? = some t → args[j]? = some v → Value.okWide Tryd.prog W .any base t v := hval0
  have hW' := hW
  obtain ⟨p, q, hA0, hV, rfl, hfz, hnd⟩ := hW
  have hA : DataW.TrodAll enc Tryd.prog W 0 (fun _ => true) true Tryd.f4.params.toList args.toList ds p := hA0
  rw [Tryd.params4] at hA hval
  obtain ⟨v0, vs0, d0, ds0, p0, q0, hargs, rfl, rfl, h0, r0⟩ := trodAll_cons hA
  obtain ⟨v1, vs1, d1, ds1, p1, q1, rfl, rfl, rfl, h1, r1⟩ := trodAll_cons r0
  obtain ⟨v2, vs2, d2, ds2, p2, q2, rfl, rfl, rfl, h2, r2⟩ := trodAll_cons r1
  obtain ⟨v3, vs3, d3, ds3, p3, q3, rfl, rfl, rfl, h3, r3⟩ := trodAll_cons r2
  obtain ⟨rfl, rfl, rfl⟩ := trodAll_nil r3
  obtain rfl : args = #[v0, v1, v2, v3] := by cases args; simp_all
  obtain ⟨rfl, rfl⟩ := trodVars_none hV
  have k0 := h0
  have lt0 : ∀ x ∈ p0, x.block < W.heap.size := by obtain ⟨m, hm⟩ := k0; exact DataW.trod_lt m _ _ _ hm
  obtain ⟨x0, vs0, rfl, w0⟩ := open_struct opensTr Tryd.underlying27 (hval 0 27 v0 rfl rfl) h0
  have k1 := h1
  have lt1 : ∀ x ∈ p1, x.block < W.heap.size := by obtain ⟨m, hm⟩ := k1; exact DataW.trod_lt m _ _ _ hm
  obtain ⟨x1, vs1, rfl, w1⟩ := open_struct opensTx Tryd.underlying34 (hval 1 34 v1 rfl rfl) h1
  have k2 := h2
  have lt2 : ∀ x ∈ p2, x.block < W.heap.size := by obtain ⟨m, hm⟩ := k2; exact DataW.trod_lt m _ _ _ hm
  obtain ⟨l2, w2, rfl⟩ := open_dig Tryd.underlying23 Tryd.underlying5 cellsByte cellsDig (hval 2 23 v2 rfl rfl) h2
  have k3 := h3
  have lt3 : ∀ x ∈ p3, x.block < W.heap.size := by obtain ⟨m, hm⟩ := k3; exact DataW.trod_lt m _ _ _ hm
  obtain ⟨x3, vs3, rfl, w3⟩ := open_struct opensDp Tryd.underlying38 (hval 3 38 v3 rfl rfl) h3
  clear hA0 hval0
  refine (walk x0 vs0 x1 vs1 l2 x3 vs3 W w0 w1 w2 w3 (tab_of hL)).mono fun e W' ⟨he, bel⟩ => ?_
  subst he
  exact ⟨_, rfl, _, _, _, [], _, [], hW', trodAll_mk1 (shut_bool Tryd.underlying4 _), (trodAll_cons_mk (Below.trod laidOut (by kernel_rfl) (of_decide_eq_true (by kernel_rfl)) k0 bel lt0) (trodAll_cons_mk (Below.trod laidOut (by kernel_rfl) (of_decide_eq_true (by kernel_rfl)) k1 bel lt1) (trodAll_cons_mk (Below.trod laidOut (by kernel_rfl) (of_decide_eq_true (by kernel_rfl)) k2 bel lt2) (trodAll_cons_mk (Below.trod laidOut (by kernel_rfl) (of_decide_eq_true (by kernel_rfl)) k3 bel lt3) trodAll_mk0)))), rfl, bel.frame _, fun h => by cases h⟩

theorem laid_met (os : Os) : laidMet Tryd.prog Rows.purseKeepsRow.laid ((laidWorld os).forCall (fun _ _ => 0) ⟨#[], #[.agg zTrC, .agg zTxC, .agg (List.replicate 32 (bv 0)).toArray, .agg (dpC ⟨0, z0, 0⟩).toArray], []⟩).memory :=
  laidMet_of_run' 8 (by kernel_rfl) (by kernel_rfl)
theorem reads (os : Os) {H : Type} (enc : TypeId × Value → H) : ∃ places, DataW.whole enc Tryd.prog ((laidWorld os).forCall (fun _ _ => 0) ⟨#[], #[.agg zTrC, .agg zTxC, .agg (List.replicate 32 (bv 0)).toArray, .agg (dpC ⟨0, z0, 0⟩).toArray], []⟩).memory Tryd.f4.params.toList Rows.purseKeepsSpec.vars false (#[.agg zTrC, .agg zTxC, .agg (List.replicate 32 (bv 0)).toArray, .agg (dpC ⟨0, z0, 0⟩).toArray] : Array Value).toList 8 = some ([.agg [.nil, .lit (.int .i64 0)], .agg [.agg (List.replicate 32 (.lit (.int .u8 0))), .agg (List.replicate 32 (.lit (.int .u8 0))), .lit (.int .u64 0), .lit (.int .u64 0), .lit (.int .u64 0), .agg (List.replicate 32 (.lit (.int .u8 0)))], .agg (List.replicate 32 (.lit (.int .u8 0))), .agg [.lit (.int .u64 0), .agg (List.replicate 32 (.lit (.int .u8 0))), .lit (.int .u64 0)]], [], places) :=
  ⟨[], by kernel_rfl⟩
set_option maxRecDepth 100000 in
theorem lifted (os : Os) (started : os.Started) (H : Type) (enc : TypeId × Value → H) (F : Stop.Interp) :
    ReturnsInHanded {} Tryd.checked os 4 .any ((OpenSpec.ofChange Rows.purseKeepsSpec).preRow enc Tryd.prog Tryd.f4 Rows.purseKeepsRow.domain false Rows.purseKeepsRow.laid) (((OpenSpec.ofChange Rows.purseKeepsSpec).at F).post enc Tryd.prog Tryd.f4 false true false false) := by
  obtain ⟨places, hx⟩ := reads os enc
  refine returnsInHanded_of_row (C := Tryd.checked) (s := OpenSpec.ofChange Rows.purseKeepsSpec) own started (by kernel_rfl) Tryd.func4
    (witness_row_at (enc := enc) (C := Tryd.checked) false (laidWorld os) #[.agg zTrC, .agg zTxC, .agg (List.replicate 32 (bv 0)).toArray, .agg (dpC ⟨0, z0, 0⟩).toArray] rfl (by kernel_rfl) (by kernel_rfl) (by kernel_rfl)
      (OpenSpec.preRow_of_cond 8 hx (by kernel_rfl) (fun k hk => by cases hk) (by kernel_rfl) (laid_met os))) ?_
  intro W base args ds gs before hval hW _ _ _ hL _ _
  exact contract H enc W base args ds gs before hval hW hL
theorem said : Rows.PurseKeepsSaid :=
  OpenClaim.holds_of_cond 4 Tryd.f4 rfl rfl rfl rfl rfl rfl rfl ⟨rfl, rfl, rfl, rfl, rfl⟩ rfl rfl rfl rfl rfl (by kernel_rfl) Tryd.func4 (by kernel_rfl)
    (of_decide_eq_true (by kernel_rfl)) (by unfold Func.isWrapper; first | (rw [if_pos (by decide +kernel)]; kernel_rfl) | (rw [if_neg (by decide +kernel)]; exact ⟨rfl, rfl⟩))
    (fun os started H enc _ F => by rw [OpenClaim.pre_eq_preRow]; exact lifted os started H enc F)
set_option maxRecDepth 100000 in
/-- No parameter wants a stand-in; the program's own looks are off: what the card asks. -/
theorem plain (f : FuncId) (fn : Func) (hf : Tryd.pinned.checked.prog.funcNamed "beadroll/beadrolllaw15.PurseKeeps" = some f) (hfn : Tryd.pinned.checked.prog.funcs[f]? = some fn) :
    false = Tryd.pinned.checked.prog.looks [] ∧ ∀ (j : Nat) t, fn.params[j]? = some t → Tryd.pinned.checked.prog.wantsStandIn t = false := by
  obtain rfl : f = 4 := Option.some.inj ((show Tryd.prog.funcNamed "beadroll/beadrolllaw15.PurseKeeps" = some 4 by kernel_rfl).symm.trans hf) |>.symm
  obtain rfl : fn = Tryd.f4 := (Option.some.inj (Tryd.func4.symm.trans hfn)).symm
  refine ⟨by kernel_rfl, fun j t ht => ?_⟩
  rw [Tryd.params4] at ht
  have hm := Array.mem_of_getElem? ht
  simp only [List.mem_toArray, List.mem_cons, List.not_mem_nil, or_false] at hm
  rcases hm with rfl | rfl | rfl | rfl
  all_goals first | exact (show Tryd.prog.wantsStandIn 27 = false by kernel_rfl) | exact (show Tryd.prog.wantsStandIn 34 = false by kernel_rfl) | exact (show Tryd.prog.wantsStandIn 23 = false by kernel_rfl) | exact (show Tryd.prog.wantsStandIn 38 = false by kernel_rfl)
set_option maxRecDepth 100000 in
/-- ████ THE CARD ████ -/
theorem proved : Rows.PurseKeepsCardSaid :=
  Claim7.holds_tied_plain_at .later [] _ _ _ _ said (fun _ h => by cases h) (by kernel_rfl) (fun _ h => by cases h) purseKeeps_row_tie rfl ⟨rfl, rfl⟩ (by kernel_rfl) rfl plain (by kernel_rfl)
#print axioms proved
end Go.Proofs.YtmjocmogfckmmaaDoor.purseKeeps
