/- Texts of this claim, one behind the other: ProcPf. -/
import Derived.Test.YtcchhbkbnbphhaaGreatDoorProcP
import Derived.Test.YtcchhbkbnbphhaaGreatDoorProcP2
import Derived.Test.YtcchhbkbnbphhaaGreatDoorProcP3
import Derived.Test.YtcchhbkbnbphhaaGreatDoorM11
/- perform: all instructions. Written by gen_procp.py. -/
namespace Go.Proofs.YtcchhbkbnbphhaaGreatDoor
open Go.RowKit
set_option maxRecDepth 100000 in
theorem prPerform (a : PA) (d : CD) (m : MD) (s op reg arg : Int) (w : World) (hi : InsOk op reg arg) (hd : d.Ok) (hm : m.Ok) (h : PrAt w a d m s) :
    Calls Tryz.prog 53 #[.pointer (some ⟨a.p, 0, none⟩), .agg #[.int .i64 op, .int .i64 reg, .int .i64 arg]] w (GPr a (execD d m op reg arg) (execM d m op reg arg) (if op = 20 then arg else s) w) := by
  have h1 := hi.ho
  by_cases h3 : op ≤ 3
  · exact prPerform0 a d m s op reg arg w (by omega) hi hd hm h
  by_cases h7 : op ≤ 7
  · exact prPerform4 a d m s op reg arg w (by omega) hi hd hm h
  by_cases h11 : op ≤ 11
  · exact prPerform8 a d m s op reg arg w (by omega) hi hd hm h
  by_cases h15 : op ≤ 15
  · exact prPerform12 a d m s op reg arg w (by omega) hi hd hm h
  by_cases h19 : op ≤ 19
  · exact prPerform16 a d m s op reg arg w (by omega) hi hd hm h
  exact prPerform20 a d m s op reg arg w (by omega) hi hd hm h
end Go.Proofs.YtcchhbkbnbphhaaGreatDoor
