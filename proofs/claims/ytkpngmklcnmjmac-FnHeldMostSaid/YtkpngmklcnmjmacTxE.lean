/- Walks of the exact laws on what is ok and what is held. -/
import Derived.Test.YtkpngmklcnmjmacTxH
import Derived.Test.YtkpngmklcnmjmacTxG
namespace Go.Proofs.Ytkpngmklcnmjmac.TxW
open Go.RowKit Go.Proofs.Ytkpngmklcnmjmac.Kit Go.Proofs.Ytkpngmklcnmjmac.Tx

theorem max_of (s : ByteArray) (h : (s.size : Int) ≤ 1048576) : s.size ≤ maxLen := by unfold maxLen; omega

end Go.Proofs.Ytkpngmklcnmjmac.TxW
