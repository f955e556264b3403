/- Walks of the exact laws on what is ok and what is held. -/
import Derived.Test.YtkpngmklcnmjmabTxH
import Derived.Test.YtkpngmklcnmjmabTxG
namespace Go.Proofs.Ytkpngmklcnmjmab.TxW
open Go.RowKit Go.Proofs.Ytkpngmklcnmjmab.Kit Go.Proofs.Ytkpngmklcnmjmab.Tx

theorem max_of (s : ByteArray) (h : (s.size : Int) ≤ 1048576) : s.size ≤ maxLen := by unfold maxLen; omega

end Go.Proofs.Ytkpngmklcnmjmab.TxW
