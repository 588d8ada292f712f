/- The reference's machine: any byte within a csi. -/
import Derived.Test.YtjodbmfjdpbbnaaDoorVtCsiB
import Derived.Test.YtjodbmfjdpbbnaaDoorVtCsiC
namespace Go.Proofs.YtjodbmfjdpbbnaaDoor
set_option maxRecDepth 100000
open Go.RowKit
namespace Vt
theorem csi_any (base b : Nat) (m : Mc) (c : UInt8) (w : World) (h : Mach w base b m) (hl : m.l.length ≤ 600000000) (hbase : base ≤ w.heap.size) (hk : Ok m.p) :
    Calls Tryd.prog 47 #[.pointer (some ⟨b, 0, none⟩), .int .u8 c.toNat] w (Runs base b w (m.csi c)) := by
  by_cases h47 : c.toNat ≤ 47
  · exact csi_low base b m c w h hl hbase hk h47
  by_cases h57 : c.toNat ≤ 57
  · exact csi_digit base b m c w h hbase hk (by omega) h57
  by_cases h59 : c.toNat ≤ 59
  · exact csi_semi base b m c w h hbase hk (by omega) h59
  by_cases h63 : c.toNat ≤ 63
  · exact csi_priv base b m c w h hbase hk (by omega) h63
  by_cases h127 : 127 ≤ c.toNat
  · exact csi_end base b m c w h hbase hk h127
  · exact csi_tell base b m c w h hl hbase hk (by omega) (by omega)
end Vt
end Go.Proofs.YtjodbmfjdpbbnaaDoor
