import Derived.Test.YtafmbokfkbccaaaGreatDoorJB23
import Derived.Defers
import Derived.Recover
import Derived.Test.YtafmbokfkbccaaaGreatDoorJB19
import Derived.Test.YtafmbokfkbccaaaGreatDoorJB11
namespace Go.Proofs.YtafmbokfkbccaaaGreatDoor
open Go.RowKit Go.Sort
def Ol (s:Bs):List aF×Int×Nat:=
 if 3000<s.length then([],4,0) else match Ho s with
  | .ok out _=>(out,0,0)
  | .bad n r=>([],n,s.length-r.length)
end Go.Proofs.YtafmbokfkbccaaaGreatDoor
namespace Go.Proofs.YtafmbokfkbccaaaGreatDoor
open Go.RowKit Go.Sort Go.Maps
def Tg:ByteArray:={data:=#[98,40,88,41,32,58,45,32,97,40,88,41,44,32,33,99,40,88,41,46,32,99,40,88,41,32,58,45,32,100,40,88,41,46]}
def Ti:ByteArray:={data:=#[97,40,120,41,32,58,45,32,33,97,40,120,41,46]}
def ra:aA:=⟨⟨false,[98],[(true,[88])]⟩,[⟨false,[97],[(true,[88])]⟩,⟨true,[99],[(true,[88])]⟩]⟩
def rb:aA:=⟨⟨false,[99],[(true,[88])]⟩,[⟨false,[100],[(true,[88])]⟩]⟩
def rc:aA:=⟨⟨false,[97],[(false,[120])]⟩,[⟨true,[97],[(false,[120])]⟩]⟩
theorem Tj:dZ (raw Tg)=([ra,rb],0,0):=by kernel_rfl
theorem Tk:dZ (raw Ti)=([rc],0,0):=by kernel_rfl
theorem PE:aS [ra,rb]=([1,0],0,0):=by kernel_rfl
theorem PI:aS [rc]=([],10,0):=by kernel_rfl
theorem QV:gG [ra,rb]=(0,0):=by kernel_rfl
theorem Tm:vars ra.head=[[88]]:=by kernel_rfl
end Go.Proofs.YtafmbokfkbccaaaGreatDoor
namespace Go.Proofs.YtafmbokfkbccaaaGreatDoor
open Go.RowKit Go.Sort Go.Maps
end Go.Proofs.YtafmbokfkbccaaaGreatDoor
namespace Go.Proofs.YtafmbokfkbccaaaGreatDoor
open Go.RowKit Go.Sort Go.Maps
end Go.Proofs.YtafmbokfkbccaaaGreatDoor
