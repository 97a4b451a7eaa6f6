/- RowFor and GetRow as the laws call them. -/
import Derived.Test.YtpgngfdhnoonjaaMp3
namespace Go.Proofs.Ytpgngfdhnoonjaa.Tb
open Go.RowKit Wire
set_option linter.unusedVariables false
theorem lRowFor_own (b d : Int) (a : Option Addr) (cap n : Nat) (ms : List Rw) (key : Int) (w : World) (hn : ms.length = n) (hm : n ≤ 1048576) (hr : LsAt tyRw w a ms) :
    Calls Try.prog 26 #[.agg #[.int .i64 b, .int .i64 d], .slice a n cap, .int .i64 key] w fun e w' => e = .returned (.tuple #[.agg #[.int .i64 (rfV b d ms key).x0, .int .i64 (rfV b d ms key).x1, .int .i64 (rfV b d ms key).x2, .bool (rfV b d ms key).b], .bool (rfB b d ms key)]) ∧ Below w.heap.size w w' :=
  lRowFor_any b d a cap n ms key w hn (by unfold maxLen; omega) hr
theorem RowFor_own (b d : Int) (a : Option Addr) (cap n : Nat) (ms : List Rw) (key : Int) (w : World) (hn : ms.length = n) (hm : n ≤ 1048576) (hr : LsAt tyRw w a ms) (hk : Wf key) :
    Calls Try.prog 22 #[.agg #[.int .i64 b, .int .i64 d], .slice a n cap, .int .i64 key] w fun e w' => e = .returned (.tuple #[.agg #[.int .i64 (rfV b d ms key).x0, .int .i64 (rfV b d ms key).x1, .int .i64 (rfV b d ms key).x2, .bool (rfV b d ms key).b], .bool (rfB b d ms key)]) ∧ Below w.heap.size w w' :=
  RowFor_any b d a cap n ms key w hk hn hm hr
theorem lGetRow_own (b d : Int) (a : Option Addr) (cap n : Nat) (ms : List Rw) (key : Int) (w : World) (hn : ms.length = n) (hm : n ≤ 1048576) (hr : LsAt tyRw w a ms) :
    Calls Try.prog 24 #[.agg #[.int .i64 b, .int .i64 d], .slice a n cap, .int .i64 key] w fun e w' => e = .returned (.tuple #[.int .i64 (gtV b d ms key), .bool (gtB b d ms key)]) ∧ Below w.heap.size w w' :=
  lGetRow_any b d a cap n ms key w hn (by unfold maxLen; omega) hr
theorem GetRow_own (b d : Int) (a : Option Addr) (cap n : Nat) (ms : List Rw) (key : Int) (w : World) (hn : ms.length = n) (hm : n ≤ 1048576) (hr : LsAt tyRw w a ms) (hk : Wf key) :
    Calls Try.prog 20 #[.agg #[.int .i64 b, .int .i64 d], .slice a n cap, .int .i64 key] w fun e w' => e = .returned (.tuple #[.int .i64 (gtV b d ms key), .bool (gtB b d ms key)]) ∧ Below w.heap.size w w' :=
  GetRow_any b d a cap n ms key w hk hn hm hr
end Go.Proofs.Ytpgngfdhnoonjaa.Tb
