/- Package format: lookChunk. -/
import Derived.Test.YtmcjknjlihgihaaGreatDoorLawparseuptoM42
import Derived.Test.YtmcjknjlihgihaaGreatDoorLawparseuptoM43
set_option linter.unusedVariables false
set_option linter.unusedSimpArgs false
set_option linter.unnecessarySimpa false
set_option maxRecDepth 100000
namespace Go.Proofs.YtmcjknjlihgihaaGreatDoor
open Go.RowKit
theorem Zpe (v:Value) (xs:List Nat) (kd rows:Nat) (en:En) (w:World) (hT:Tab w) (hTF:TabF w) (hv:Rd w v xs.length 1 (u8s xs)) (hb:∀ x∈xs,x<256) (hl:xs.length≤16777216) (hk:kd=1∨kd=2) (hrr:rows≤65536) (hfit:en.off+en.len+en.zl≤xs.length) :
  Calls Tryz.prog 47 #[v,.int .i64 kd,.int .i64 rows,.agg #[.int .i64 (en.off:Nat),.int .i64 (en.len:Nat),.int .u32 (en.sum:Nat),.int .i64 (en.zl:Nat)]] w (Zir kd rows xs en w):=by
 rcases hk with hk1 | hk1
 ·exact Zs0 v xs kd rows en w hT hTF hv hb hl (.inl hk1) hrr hfit hk1
 ·exact Zsh v xs kd rows en w hT hTF hv hb hl (.inr hk1) hrr hfit hk1
end Go.Proofs.YtmcjknjlihgihaaGreatDoor
