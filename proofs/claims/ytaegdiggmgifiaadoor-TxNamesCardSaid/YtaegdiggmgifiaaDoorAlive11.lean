/-
  Layer 11's law: the chapter's first examples.
-/
import Derived.Test.YtaegdiggmgifiaaDoorTxD
namespace Go.Proofs.YtaegdiggmgifiaaDoor
open Go.RowKit
set_option linter.unusedVariables false
set_option linter.unusedSimpArgs false
set_option maxRecDepth 100000

theorem zX_ok : zX.ok := ⟨by decide, by decide, by decide⟩
theorem zero_unsigned : decide (zX = signX zX) = false := by
  refine decide_eq_false fun h => ?_
  have h2 : (sha256 (tagB 4 [bodyX zX])).head? = some 0 := by
    have := congrArg (fun x : Tx => x.s.1.head?) h
    exact this.symm
  exact absurd h2 (by decide +kernel)
theorem signed_all (x : Tx) : decide (signX x = signX (signX x)) = true := decide_eq_true (sign_twice x).symm
set_option maxHeartbeats 4000000 in
theorem alive11_any (w : World) (hT : Tab w) : Calls Tryd.prog 10 #[] w fun e w' => e = .returned (.bool true) ∧ Below w.heap.size w w' := by
  have hux := Tryd.underlying26
  have b0 := ext_alloc w (.cells zTxC 26)
  have X0 := hid (show (w.alloc (.cells zTxC 26)).rangeAt w.heap.size 0 (txC zX) from rangeOf (heap_alloc_new w (.cells (txC zX).toArray 26)))
  have hC1 := hid (fun W hT => PTxCheck_any zX zX_ok false zero_unsigned W hT)
  have hS := hid (fun W hT => PTxSign_any zX zX_ok W hT)
  have hC2 := hid (fun W hT => PTxCheck_any (signX zX) (sign_ok zX_ok) true (signed_all zX) W hT)
  have hBy := hid (fun W => PTxBytes_any zX zX_ok W)
  have jx := hid (sizeTx zX)
  have T0 := hid (hT.bel b0 hT.low)
  have hlow := hid hT.low
  have W0 := hid b0
  clear hT b0
  generalize bytesX zX = vb at *
  generalize txC (signX zX) = cs at *
  generalize txC zX = cx at *
  go_enter Tryd.func10, Tryd.ntmps10
  go_wp2_with (first
    | (with_reducible refine wpList_alloc_row rfl 26 rfl zTxC zInfoTx ?_)
    | ((with_reducible refine wpList_load_rng rfl 26 (.tmp 1) rfl w.heap.size 0 rfl cx _ ?_ hux rfl jx.out ?_); exact X0.out))
  refine (hC1.out _ T0.out).mono ?_
  rintro e w1 ⟨rfl, hb⟩
  have W1 := hid (W0.out.trans (hb.mono W0.out.size))
  have X1 := hid (rangeBel2 hb X0.out)
  have T1 := hid (T0.out.bel hb T0.out.low)
  clear hb X0 T0 W0
  go_wp2_with (first
    | ((with_reducible refine wpList_load_rng ?_ 26 (.tmp 1) rfl w.heap.size 0 rfl cx _ ?_ hux rfl jx.out ?_); rfl; exact X1.out))
  refine (hS.out _ T1.out).mono ?_
  rintro e w2 ⟨rfl, hb⟩
  have W2 := hid (W1.out.trans (hb.mono W1.out.size))
  have X2 := hid (rangeBel2 hb X1.out)
  have T2 := hid (T1.out.bel hb T1.out.low)
  clear hb X1 T1 W1
  go_wp2_with fail
  refine (hC2.out _ T2.out).mono ?_
  rintro e w3 ⟨rfl, hb⟩
  have W3 := hid (W2.out.trans (hb.mono W2.out.size))
  have X3 := hid (rangeBel2 hb X2.out)
  clear hb X2 T2 W2
  go_wp2_with (first
    | ((with_reducible refine wpList_load_rng ?_ 26 (.tmp 1) rfl w.heap.size 0 rfl cx _ ?_ hux rfl jx.out ?_); rfl; exact X3.out))
  refine (hBy.out _).mono ?_
  rintro e w4 ⟨A4, c4, rfl, -, hb⟩
  have W4 := hid (W3.out.trans (hb.mono W3.out.size))
  clear hb X3 W3
  go_wp2
  go_ret
  exact ⟨rfl, W4.out⟩
end Go.Proofs.YtaegdiggmgifiaaDoor
