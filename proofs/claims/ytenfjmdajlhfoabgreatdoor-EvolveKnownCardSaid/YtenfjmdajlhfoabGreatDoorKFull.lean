/- Texts. -/
import Derived.Test.YtenfjmdajlhfoabGreatDoorKU2
import Derived.Deep.QuietTactic
import Derived.BigQuiet
set_option maxHeartbeats 2000000
namespace Go.Proofs.YtenfjmdajlhfoabGreatDoor
open Go.RowKit
set_option linter.unusedVariables false
theorem below_drewN {W w:World} {B:Nat} (h:Below B W w) (n:Nat):Below B W (w.drewN n):=⟨h.os,h.tape,h.output,h.size,h.block⟩
set_option maxRecDepth 100000 in
theorem full_240 (s:ByteArray) (w:World) (T:Tab w) (h0:0 < s.size) (hm:s.size≤maxLen) (hX:Lib.firstT ((bl s).getD 0 0)=240) (r:Bool) (hr:Utf.full (bl s)=r) :
 Calls Tryz.prog 184 #[.string s] w fun e w'=>e=.returned (.bool r)∧Below w.heap.size w w':=by
 unfold maxLen at hm
 have hx0:=bl_at s 0 h0
 have hb0:=Utf.getD_byte (bl_byte s) 0
 have hc:=T.1 ((bl s).getD 0 0) hb0
 have hx1:∀ h:1 < s.size,_:=bl_at s 1
 have hx2:∀ h:2 < s.size,_:=bl_at s 2
 have hb1:=Utf.getD_byte (bl_byte s) 1
 have hb2:=Utf.getD_byte (bl_byte s) 2
 unfold Utf.full at hr
 simp only [hX,bl_length] at hr
 rw [hX] at hc
 have hne:decide (0 < s.size)=true:=by simp;omega
 have hz:((s.size:Int) == 0)=false:=by rw [beq_eq_false_iff_ne];omega
 have ha:bits BinOp.and IntKind.u8 240 7=0:=by decide
 have hl0:=(T.2 0 (by omega)).1
 have hl1:=(T.2 0 (by omega)).2
 simp [Lib.accLo,Lib.accHi] at hl0 hl1
 generalize (bl s).getD 0 0=b0 at *
 generalize (bl s).getD 1 0=b1 at *
 generalize (bl s).getD 2 0=b2 at *
 by_cases hn:0≤s.size
 ·have hr2:r=true:=by rw [← hr,if_neg (by omega),if_pos (by omega)]
  have HR:=hZ hr2
  have hn':(0:Int)≤s.size:=by omega
  clear hr hr2 hn T hx1 hx2
  go_enter Tryz.func184,Tryz.ntmps184
  go_wp2
  go_ret
  exact⟨ret_bool HR.out.symm,Below.refl _ _⟩
 ·omega
set_option maxRecDepth 100000 in
theorem full_241 (s:ByteArray) (w:World) (T:Tab w) (h0:0 < s.size) (hm:s.size≤maxLen) (hX:Lib.firstT ((bl s).getD 0 0)=241) (r:Bool) (hr:Utf.full (bl s)=r) :
 Calls Tryz.prog 184 #[.string s] w fun e w'=>e=.returned (.bool r)∧Below w.heap.size w w':=by
 unfold maxLen at hm
 have hx0:=bl_at s 0 h0
 have hb0:=Utf.getD_byte (bl_byte s) 0
 have hc:=T.1 ((bl s).getD 0 0) hb0
 have hx1:∀ h:1 < s.size,_:=bl_at s 1
 have hx2:∀ h:2 < s.size,_:=bl_at s 2
 have hb1:=Utf.getD_byte (bl_byte s) 1
 have hb2:=Utf.getD_byte (bl_byte s) 2
 unfold Utf.full at hr
 simp only [hX,bl_length] at hr
 rw [hX] at hc
 have hne:decide (0 < s.size)=true:=by simp;omega
 have hz:((s.size:Int) == 0)=false:=by rw [beq_eq_false_iff_ne];omega
 have ha:bits BinOp.and IntKind.u8 241 7=1:=by decide
 have hl0:=(T.2 0 (by omega)).1
 have hl1:=(T.2 0 (by omega)).2
 simp [Lib.accLo,Lib.accHi] at hl0 hl1
 generalize (bl s).getD 0 0=b0 at *
 generalize (bl s).getD 1 0=b1 at *
 generalize (bl s).getD 2 0=b2 at *
 by_cases hn:1≤s.size
 ·have hr2:r=true:=by rw [← hr,if_neg (by omega),if_pos (by omega)]
  have HR:=hZ hr2
  have hn':(1:Int)≤s.size:=by omega
  clear hr hr2 hn T hx1 hx2
  go_enter Tryz.func184,Tryz.ntmps184
  go_wp2
  go_ret
  exact⟨ret_bool HR.out.symm,Below.refl _ _⟩
 ·omega
set_option maxRecDepth 100000 in
theorem full_2 (s:ByteArray) (w:World) (T:Tab w) (h0:0 < s.size) (hm:s.size≤maxLen) (hX:Lib.firstT ((bl s).getD 0 0)=2) (r:Bool) (hr:Utf.full (bl s)=r) :
 Calls Tryz.prog 184 #[.string s] w fun e w'=>e=.returned (.bool r)∧Below w.heap.size w w':=by
 unfold maxLen at hm
 have hx0:=bl_at s 0 h0
 have hb0:=Utf.getD_byte (bl_byte s) 0
 have hc:=T.1 ((bl s).getD 0 0) hb0
 have hx1:∀ h:1 < s.size,_:=bl_at s 1
 have hx2:∀ h:2 < s.size,_:=bl_at s 2
 have hb1:=Utf.getD_byte (bl_byte s) 1
 have hb2:=Utf.getD_byte (bl_byte s) 2
 unfold Utf.full at hr
 simp only [hX,bl_length] at hr
 rw [hX] at hc
 have hne:decide (0 < s.size)=true:=by simp;omega
 have hz:((s.size:Int) == 0)=false:=by rw [beq_eq_false_iff_ne];omega
 have ha:bits BinOp.and IntKind.u8 2 7=2:=by decide
 have hl0:=(T.2 0 (by omega)).1
 have hl1:=(T.2 0 (by omega)).2
 simp [Lib.accLo,Lib.accHi] at hl0 hl1
 generalize (bl s).getD 0 0=b0 at *
 generalize (bl s).getD 1 0=b1 at *
 generalize (bl s).getD 2 0=b2 at *
 by_cases hn:2≤s.size
 ·have hr2:r=true:=by rw [← hr,if_neg (by omega),if_pos (by omega)]
  have HR:=hZ hr2
  have hn':(2:Int)≤s.size:=by omega
  clear hr hr2 hn T hx1 hx2
  go_enter Tryz.func184,Tryz.ntmps184
  go_wp2
  go_ret
  exact⟨ret_bool HR.out.symm,Below.refl _ _⟩
 ·have hn':¬ ((2:Int)≤s.size):=by omega
  rw [if_neg (by omega),if_neg (by omega)] at hr
  simp [Lib.accLo,Lib.accHi] at hr
  by_cases hs1:1 < s.size
  ·omega
  ·have hd1:decide (1 < (s.size:Int))=false:=by simp;omega
   have hlt1:¬ ((1:Int) < s.size):=by omega
   have hd2:decide (2 < (s.size:Int))=false:=by simp;omega
   have hlt2:¬ ((2:Int) < s.size):=by omega
   have HR:=hZ (show r=false by rw [← hr];simp;omega)
   clear hr hn T hx1 hx2
   go_enter Tryz.func184,Tryz.ntmps184
   go_wp2
   go_quiet (fail)
   go_wp2
   go_ret
   exact⟨ret_bool HR.out.symm,below_drewN ((Below.refl _ _).alloc (Nat.le_refl _) _) _⟩
set_option maxRecDepth 100000 in
theorem full_19 (s:ByteArray) (w:World) (T:Tab w) (h0:0 < s.size) (hm:s.size≤maxLen) (hX:Lib.firstT ((bl s).getD 0 0)=19) (r:Bool) (hr:Utf.full (bl s)=r) :
 Calls Tryz.prog 184 #[.string s] w fun e w'=>e=.returned (.bool r)∧Below w.heap.size w w':=by
 unfold maxLen at hm
 have hx0:=bl_at s 0 h0
 have hb0:=Utf.getD_byte (bl_byte s) 0
 have hc:=T.1 ((bl s).getD 0 0) hb0
 have hx1:∀ h:1 < s.size,_:=bl_at s 1
 have hx2:∀ h:2 < s.size,_:=bl_at s 2
 have hb1:=Utf.getD_byte (bl_byte s) 1
 have hb2:=Utf.getD_byte (bl_byte s) 2
 unfold Utf.full at hr
 simp only [hX,bl_length] at hr
 rw [hX] at hc
 have hne:decide (0 < s.size)=true:=by simp;omega
 have hz:((s.size:Int) == 0)=false:=by rw [beq_eq_false_iff_ne];omega
 have ha:bits BinOp.and IntKind.u8 19 7=3:=by decide
 have hl0:=(T.2 1 (by omega)).1
 have hl1:=(T.2 1 (by omega)).2
 simp [Lib.accLo,Lib.accHi] at hl0 hl1
 generalize (bl s).getD 0 0=b0 at *
 generalize (bl s).getD 1 0=b1 at *
 generalize (bl s).getD 2 0=b2 at *
 by_cases hn:3≤s.size
 ·have hr2:r=true:=by rw [← hr,if_neg (by omega),if_pos (by omega)]
  have HR:=hZ hr2
  have hn':(3:Int)≤s.size:=by omega
  clear hr hr2 hn T hx1 hx2
  go_enter Tryz.func184,Tryz.ntmps184
  go_wp2
  go_ret
  exact⟨ret_bool HR.out.symm,Below.refl _ _⟩
 ·have hn':¬ ((3:Int)≤s.size):=by omega
  rw [if_neg (by omega),if_neg (by omega)] at hr
  simp [Lib.accLo,Lib.accHi] at hr
  by_cases hs1:1 < s.size
  ·skip
   have hy1:=hx1 hs1
   have hd1:decide (1 < (s.size:Int))=true:=by simp;omega
   have hlt1:(1:Int) < s.size:=by omega
   by_cases hlo:b1 < 160
   ·have q1:(b1:Int) < 160:=by omega
    have HR:=hZ (show r=true by rw [← hr];simp;omega)
    clear hr hn T hx1 hx2
    go_enter Tryz.func184,Tryz.ntmps184
    go_wp2
    go_quiet (fail)
    go_wp2
    go_ret
    exact⟨ret_bool HR.out.symm,below_drewN ((Below.refl _ _).alloc (Nat.le_refl _) _) _⟩
   ·have q1:¬ ((b1:Int) < 160):=by omega
    by_cases hhi:191 < b1
    ·have q2:(191:Int) < b1:=by omega
     have HR:=hZ (show r=true by rw [← hr];simp;omega)
     clear hr hn T hx1 hx2
     go_enter Tryz.func184,Tryz.ntmps184
     go_wp2
     go_quiet (fail)
     go_wp2
     go_ret
     exact⟨ret_bool HR.out.symm,below_drewN ((Below.refl _ _).alloc (Nat.le_refl _) _) _⟩
    ·have q2:¬ ((191:Int) < b1):=by omega
     have hd2:decide (2 < (s.size:Int))=false:=by simp;omega
     have hlt2:¬ ((2:Int) < s.size):=by omega
     have HR:=hZ (show r=false by rw [← hr];simp;omega)
     clear hr hn T hx1 hx2
     go_enter Tryz.func184,Tryz.ntmps184
     go_wp2
     go_quiet (fail)
     go_wp2
     go_ret
     exact⟨ret_bool HR.out.symm,below_drewN ((Below.refl _ _).alloc (Nat.le_refl _) _) _⟩
  ·have hd1:decide (1 < (s.size:Int))=false:=by simp;omega
   have hlt1:¬ ((1:Int) < s.size):=by omega
   have hd2:decide (2 < (s.size:Int))=false:=by simp;omega
   have hlt2:¬ ((2:Int) < s.size):=by omega
   have HR:=hZ (show r=false by rw [← hr];simp;omega)
   clear hr hn T hx1 hx2
   go_enter Tryz.func184,Tryz.ntmps184
   go_wp2
   go_quiet (fail)
   go_wp2
   go_ret
   exact⟨ret_bool HR.out.symm,below_drewN ((Below.refl _ _).alloc (Nat.le_refl _) _) _⟩
set_option maxRecDepth 100000 in
theorem full_3 (s:ByteArray) (w:World) (T:Tab w) (h0:0 < s.size) (hm:s.size≤maxLen) (hX:Lib.firstT ((bl s).getD 0 0)=3) (r:Bool) (hr:Utf.full (bl s)=r) :
 Calls Tryz.prog 184 #[.string s] w fun e w'=>e=.returned (.bool r)∧Below w.heap.size w w':=by
 unfold maxLen at hm
 have hx0:=bl_at s 0 h0
 have hb0:=Utf.getD_byte (bl_byte s) 0
 have hc:=T.1 ((bl s).getD 0 0) hb0
 have hx1:∀ h:1 < s.size,_:=bl_at s 1
 have hx2:∀ h:2 < s.size,_:=bl_at s 2
 have hb1:=Utf.getD_byte (bl_byte s) 1
 have hb2:=Utf.getD_byte (bl_byte s) 2
 unfold Utf.full at hr
 simp only [hX,bl_length] at hr
 rw [hX] at hc
 have hne:decide (0 < s.size)=true:=by simp;omega
 have hz:((s.size:Int) == 0)=false:=by rw [beq_eq_false_iff_ne];omega
 have ha:bits BinOp.and IntKind.u8 3 7=3:=by decide
 have hl0:=(T.2 0 (by omega)).1
 have hl1:=(T.2 0 (by omega)).2
 simp [Lib.accLo,Lib.accHi] at hl0 hl1
 generalize (bl s).getD 0 0=b0 at *
 generalize (bl s).getD 1 0=b1 at *
 generalize (bl s).getD 2 0=b2 at *
 by_cases hn:3≤s.size
 ·have hr2:r=true:=by rw [← hr,if_neg (by omega),if_pos (by omega)]
  have HR:=hZ hr2
  have hn':(3:Int)≤s.size:=by omega
  clear hr hr2 hn T hx1 hx2
  go_enter Tryz.func184,Tryz.ntmps184
  go_wp2
  go_ret
  exact⟨ret_bool HR.out.symm,Below.refl _ _⟩
 ·have hn':¬ ((3:Int)≤s.size):=by omega
  rw [if_neg (by omega),if_neg (by omega)] at hr
  simp [Lib.accLo,Lib.accHi] at hr
  by_cases hs1:1 < s.size
  ·skip
   have hy1:=hx1 hs1
   have hd1:decide (1 < (s.size:Int))=true:=by simp;omega
   have hlt1:(1:Int) < s.size:=by omega
   by_cases hlo:b1 < 128
   ·have q1:(b1:Int) < 128:=by omega
    have HR:=hZ (show r=true by rw [← hr];simp;omega)
    clear hr hn T hx1 hx2
    go_enter Tryz.func184,Tryz.ntmps184
    go_wp2
    go_quiet (fail)
    go_wp2
    go_ret
    exact⟨ret_bool HR.out.symm,below_drewN ((Below.refl _ _).alloc (Nat.le_refl _) _) _⟩
   ·have q1:¬ ((b1:Int) < 128):=by omega
    by_cases hhi:191 < b1
    ·have q2:(191:Int) < b1:=by omega
     have HR:=hZ (show r=true by rw [← hr];simp;omega)
     clear hr hn T hx1 hx2
     go_enter Tryz.func184,Tryz.ntmps184
     go_wp2
     go_quiet (fail)
     go_wp2
     go_ret
     exact⟨ret_bool HR.out.symm,below_drewN ((Below.refl _ _).alloc (Nat.le_refl _) _) _⟩
    ·have q2:¬ ((191:Int) < b1):=by omega
     have hd2:decide (2 < (s.size:Int))=false:=by simp;omega
     have hlt2:¬ ((2:Int) < s.size):=by omega
     have HR:=hZ (show r=false by rw [← hr];simp;omega)
     clear hr hn T hx1 hx2
     go_enter Tryz.func184,Tryz.ntmps184
     go_wp2
     go_quiet (fail)
     go_wp2
     go_ret
     exact⟨ret_bool HR.out.symm,below_drewN ((Below.refl _ _).alloc (Nat.le_refl _) _) _⟩
  ·have hd1:decide (1 < (s.size:Int))=false:=by simp;omega
   have hlt1:¬ ((1:Int) < s.size):=by omega
   have hd2:decide (2 < (s.size:Int))=false:=by simp;omega
   have hlt2:¬ ((2:Int) < s.size):=by omega
   have HR:=hZ (show r=false by rw [← hr];simp;omega)
   clear hr hn T hx1 hx2
   go_enter Tryz.func184,Tryz.ntmps184
   go_wp2
   go_quiet (fail)
   go_wp2
   go_ret
   exact⟨ret_bool HR.out.symm,below_drewN ((Below.refl _ _).alloc (Nat.le_refl _) _) _⟩
set_option maxRecDepth 100000 in
theorem full_35 (s:ByteArray) (w:World) (T:Tab w) (h0:0 < s.size) (hm:s.size≤maxLen) (hX:Lib.firstT ((bl s).getD 0 0)=35) (r:Bool) (hr:Utf.full (bl s)=r) :
 Calls Tryz.prog 184 #[.string s] w fun e w'=>e=.returned (.bool r)∧Below w.heap.size w w':=by
 unfold maxLen at hm
 have hx0:=bl_at s 0 h0
 have hb0:=Utf.getD_byte (bl_byte s) 0
 have hc:=T.1 ((bl s).getD 0 0) hb0
 have hx1:∀ h:1 < s.size,_:=bl_at s 1
 have hx2:∀ h:2 < s.size,_:=bl_at s 2
 have hb1:=Utf.getD_byte (bl_byte s) 1
 have hb2:=Utf.getD_byte (bl_byte s) 2
 unfold Utf.full at hr
 simp only [hX,bl_length] at hr
 rw [hX] at hc
 have hne:decide (0 < s.size)=true:=by simp;omega
 have hz:((s.size:Int) == 0)=false:=by rw [beq_eq_false_iff_ne];omega
 have ha:bits BinOp.and IntKind.u8 35 7=3:=by decide
 have hl0:=(T.2 2 (by omega)).1
 have hl1:=(T.2 2 (by omega)).2
 simp [Lib.accLo,Lib.accHi] at hl0 hl1
 generalize (bl s).getD 0 0=b0 at *
 generalize (bl s).getD 1 0=b1 at *
 generalize (bl s).getD 2 0=b2 at *
 by_cases hn:3≤s.size
 ·have hr2:r=true:=by rw [← hr,if_neg (by omega),if_pos (by omega)]
  have HR:=hZ hr2
  have hn':(3:Int)≤s.size:=by omega
  clear hr hr2 hn T hx1 hx2
  go_enter Tryz.func184,Tryz.ntmps184
  go_wp2
  go_ret
  exact⟨ret_bool HR.out.symm,Below.refl _ _⟩
 ·have hn':¬ ((3:Int)≤s.size):=by omega
  rw [if_neg (by omega),if_neg (by omega)] at hr
  simp [Lib.accLo,Lib.accHi] at hr
  by_cases hs1:1 < s.size
  ·skip
   have hy1:=hx1 hs1
   have hd1:decide (1 < (s.size:Int))=true:=by simp;omega
   have hlt1:(1:Int) < s.size:=by omega
   by_cases hlo:b1 < 128
   ·have q1:(b1:Int) < 128:=by omega
    have HR:=hZ (show r=true by rw [← hr];simp;omega)
    clear hr hn T hx1 hx2
    go_enter Tryz.func184,Tryz.ntmps184
    go_wp2
    go_quiet (fail)
    go_wp2
    go_ret
    exact⟨ret_bool HR.out.symm,below_drewN ((Below.refl _ _).alloc (Nat.le_refl _) _) _⟩
   ·have q1:¬ ((b1:Int) < 128):=by omega
    by_cases hhi:159 < b1
    ·have q2:(159:Int) < b1:=by omega
     have HR:=hZ (show r=true by rw [← hr];simp;omega)
     clear hr hn T hx1 hx2
     go_enter Tryz.func184,Tryz.ntmps184
     go_wp2
     go_quiet (fail)
     go_wp2
     go_ret
     exact⟨ret_bool HR.out.symm,below_drewN ((Below.refl _ _).alloc (Nat.le_refl _) _) _⟩
    ·have q2:¬ ((159:Int) < b1):=by omega
     have hd2:decide (2 < (s.size:Int))=false:=by simp;omega
     have hlt2:¬ ((2:Int) < s.size):=by omega
     have HR:=hZ (show r=false by rw [← hr];simp;omega)
     clear hr hn T hx1 hx2
     go_enter Tryz.func184,Tryz.ntmps184
     go_wp2
     go_quiet (fail)
     go_wp2
     go_ret
     exact⟨ret_bool HR.out.symm,below_drewN ((Below.refl _ _).alloc (Nat.le_refl _) _) _⟩
  ·have hd1:decide (1 < (s.size:Int))=false:=by simp;omega
   have hlt1:¬ ((1:Int) < s.size):=by omega
   have hd2:decide (2 < (s.size:Int))=false:=by simp;omega
   have hlt2:¬ ((2:Int) < s.size):=by omega
   have HR:=hZ (show r=false by rw [← hr];simp;omega)
   clear hr hn T hx1 hx2
   go_enter Tryz.func184,Tryz.ntmps184
   go_wp2
   go_quiet (fail)
   go_wp2
   go_ret
   exact⟨ret_bool HR.out.symm,below_drewN ((Below.refl _ _).alloc (Nat.le_refl _) _) _⟩
set_option maxRecDepth 100000 in
theorem full_52 (s:ByteArray) (w:World) (T:Tab w) (h0:0 < s.size) (hm:s.size≤maxLen) (hX:Lib.firstT ((bl s).getD 0 0)=52) (r:Bool) (hr:Utf.full (bl s)=r) :
 Calls Tryz.prog 184 #[.string s] w fun e w'=>e=.returned (.bool r)∧Below w.heap.size w w':=by
 unfold maxLen at hm
 have hx0:=bl_at s 0 h0
 have hb0:=Utf.getD_byte (bl_byte s) 0
 have hc:=T.1 ((bl s).getD 0 0) hb0
 have hx1:∀ h:1 < s.size,_:=bl_at s 1
 have hx2:∀ h:2 < s.size,_:=bl_at s 2
 have hb1:=Utf.getD_byte (bl_byte s) 1
 have hb2:=Utf.getD_byte (bl_byte s) 2
 unfold Utf.full at hr
 simp only [hX,bl_length] at hr
 rw [hX] at hc
 have hne:decide (0 < s.size)=true:=by simp;omega
 have hz:((s.size:Int) == 0)=false:=by rw [beq_eq_false_iff_ne];omega
 have ha:bits BinOp.and IntKind.u8 52 7=4:=by decide
 have hl0:=(T.2 3 (by omega)).1
 have hl1:=(T.2 3 (by omega)).2
 simp [Lib.accLo,Lib.accHi] at hl0 hl1
 generalize (bl s).getD 0 0=b0 at *
 generalize (bl s).getD 1 0=b1 at *
 generalize (bl s).getD 2 0=b2 at *
 by_cases hn:4≤s.size
 ·have hr2:r=true:=by rw [← hr,if_neg (by omega),if_pos (by omega)]
  have HR:=hZ hr2
  have hn':(4:Int)≤s.size:=by omega
  clear hr hr2 hn T hx1 hx2
  go_enter Tryz.func184,Tryz.ntmps184
  go_wp2
  go_ret
  exact⟨ret_bool HR.out.symm,Below.refl _ _⟩
 ·have hn':¬ ((4:Int)≤s.size):=by omega
  rw [if_neg (by omega),if_neg (by omega)] at hr
  simp [Lib.accLo,Lib.accHi] at hr
  by_cases hs1:1 < s.size
  ·skip
   have hy1:=hx1 hs1
   have hd1:decide (1 < (s.size:Int))=true:=by simp;omega
   have hlt1:(1:Int) < s.size:=by omega
   by_cases hlo:b1 < 144
   ·have q1:(b1:Int) < 144:=by omega
    have HR:=hZ (show r=true by rw [← hr];simp;omega)
    clear hr hn T hx1 hx2
    go_enter Tryz.func184,Tryz.ntmps184
    go_wp2
    go_quiet (fail)
    go_wp2
    go_ret
    exact⟨ret_bool HR.out.symm,below_drewN ((Below.refl _ _).alloc (Nat.le_refl _) _) _⟩
   ·have q1:¬ ((b1:Int) < 144):=by omega
    by_cases hhi:191 < b1
    ·have q2:(191:Int) < b1:=by omega
     have HR:=hZ (show r=true by rw [← hr];simp;omega)
     clear hr hn T hx1 hx2
     go_enter Tryz.func184,Tryz.ntmps184
     go_wp2
     go_quiet (fail)
     go_wp2
     go_ret
     exact⟨ret_bool HR.out.symm,below_drewN ((Below.refl _ _).alloc (Nat.le_refl _) _) _⟩
    ·have q2:¬ ((191:Int) < b1):=by omega
     by_cases hs2:2 < s.size
     ·have hy2:=hx2 hs2
      have hd2:decide (2 < (s.size:Int))=true:=by simp;omega
      have hlt2:(2:Int) < s.size:=by omega
      by_cases hlo2:b2 < 128
      ·have q3:(b2:Int) < 128:=by omega
       have HR:=hZ (show r=true by rw [← hr];simp;omega)
       clear hr hn T hx1 hx2
       go_enter Tryz.func184,Tryz.ntmps184
       go_wp2
       go_quiet (fail)
       go_wp2
       go_ret
       exact⟨ret_bool HR.out.symm,below_drewN ((Below.refl _ _).alloc (Nat.le_refl _) _) _⟩
      ·have q3:¬ ((b2:Int) < 128):=by omega
       by_cases hhi2:191 < b2
       ·have q4:(191:Int) < b2:=by omega
        have HR:=hZ (show r=true by rw [← hr];simp;omega)
        clear hr hn T hx1 hx2
        go_enter Tryz.func184,Tryz.ntmps184
        go_wp2
        go_quiet (fail)
        go_wp2
        go_ret
        exact⟨ret_bool HR.out.symm,below_drewN ((Below.refl _ _).alloc (Nat.le_refl _) _) _⟩
       ·have q4:¬ ((191:Int) < b2):=by omega
        have HR:=hZ (show r=false by rw [← hr];simp;omega)
        clear hr hn T hx1 hx2
        go_enter Tryz.func184,Tryz.ntmps184
        go_wp2
        go_quiet (fail)
        go_wp2
        go_ret
        exact⟨ret_bool HR.out.symm,below_drewN ((Below.refl _ _).alloc (Nat.le_refl _) _) _⟩
     ·have hd2:decide (2 < (s.size:Int))=false:=by simp;omega
      have hlt2:¬ ((2:Int) < s.size):=by omega
      have HR:=hZ (show r=false by rw [← hr];simp;omega)
      clear hr hn T hx1 hx2
      go_enter Tryz.func184,Tryz.ntmps184
      go_wp2
      go_quiet (fail)
      go_wp2
      go_ret
      exact⟨ret_bool HR.out.symm,below_drewN ((Below.refl _ _).alloc (Nat.le_refl _) _) _⟩
  ·have hd1:decide (1 < (s.size:Int))=false:=by simp;omega
   have hlt1:¬ ((1:Int) < s.size):=by omega
   have hd2:decide (2 < (s.size:Int))=false:=by simp;omega
   have hlt2:¬ ((2:Int) < s.size):=by omega
   have HR:=hZ (show r=false by rw [← hr];simp;omega)
   clear hr hn T hx1 hx2
   go_enter Tryz.func184,Tryz.ntmps184
   go_wp2
   go_quiet (fail)
   go_wp2
   go_ret
   exact⟨ret_bool HR.out.symm,below_drewN ((Below.refl _ _).alloc (Nat.le_refl _) _) _⟩
set_option maxRecDepth 100000 in
theorem full_4 (s:ByteArray) (w:World) (T:Tab w) (h0:0 < s.size) (hm:s.size≤maxLen) (hX:Lib.firstT ((bl s).getD 0 0)=4) (r:Bool) (hr:Utf.full (bl s)=r) :
 Calls Tryz.prog 184 #[.string s] w fun e w'=>e=.returned (.bool r)∧Below w.heap.size w w':=by
 unfold maxLen at hm
 have hx0:=bl_at s 0 h0
 have hb0:=Utf.getD_byte (bl_byte s) 0
 have hc:=T.1 ((bl s).getD 0 0) hb0
 have hx1:∀ h:1 < s.size,_:=bl_at s 1
 have hx2:∀ h:2 < s.size,_:=bl_at s 2
 have hb1:=Utf.getD_byte (bl_byte s) 1
 have hb2:=Utf.getD_byte (bl_byte s) 2
 unfold Utf.full at hr
 simp only [hX,bl_length] at hr
 rw [hX] at hc
 have hne:decide (0 < s.size)=true:=by simp;omega
 have hz:((s.size:Int) == 0)=false:=by rw [beq_eq_false_iff_ne];omega
 have ha:bits BinOp.and IntKind.u8 4 7=4:=by decide
 have hl0:=(T.2 0 (by omega)).1
 have hl1:=(T.2 0 (by omega)).2
 simp [Lib.accLo,Lib.accHi] at hl0 hl1
 generalize (bl s).getD 0 0=b0 at *
 generalize (bl s).getD 1 0=b1 at *
 generalize (bl s).getD 2 0=b2 at *
 by_cases hn:4≤s.size
 ·have hr2:r=true:=by rw [← hr,if_neg (by omega),if_pos (by omega)]
  have HR:=hZ hr2
  have hn':(4:Int)≤s.size:=by omega
  clear hr hr2 hn T hx1 hx2
  go_enter Tryz.func184,Tryz.ntmps184
  go_wp2
  go_ret
  exact⟨ret_bool HR.out.symm,Below.refl _ _⟩
 ·have hn':¬ ((4:Int)≤s.size):=by omega
  rw [if_neg (by omega),if_neg (by omega)] at hr
  simp [Lib.accLo,Lib.accHi] at hr
  by_cases hs1:1 < s.size
  ·skip
   have hy1:=hx1 hs1
   have hd1:decide (1 < (s.size:Int))=true:=by simp;omega
   have hlt1:(1:Int) < s.size:=by omega
   by_cases hlo:b1 < 128
   ·have q1:(b1:Int) < 128:=by omega
    have HR:=hZ (show r=true by rw [← hr];simp;omega)
    clear hr hn T hx1 hx2
    go_enter Tryz.func184,Tryz.ntmps184
    go_wp2
    go_quiet (fail)
    go_wp2
    go_ret
    exact⟨ret_bool HR.out.symm,below_drewN ((Below.refl _ _).alloc (Nat.le_refl _) _) _⟩
   ·have q1:¬ ((b1:Int) < 128):=by omega
    by_cases hhi:191 < b1
    ·have q2:(191:Int) < b1:=by omega
     have HR:=hZ (show r=true by rw [← hr];simp;omega)
     clear hr hn T hx1 hx2
     go_enter Tryz.func184,Tryz.ntmps184
     go_wp2
     go_quiet (fail)
     go_wp2
     go_ret
     exact⟨ret_bool HR.out.symm,below_drewN ((Below.refl _ _).alloc (Nat.le_refl _) _) _⟩
    ·have q2:¬ ((191:Int) < b1):=by omega
     by_cases hs2:2 < s.size
     ·have hy2:=hx2 hs2
      have hd2:decide (2 < (s.size:Int))=true:=by simp;omega
      have hlt2:(2:Int) < s.size:=by omega
      by_cases hlo2:b2 < 128
      ·have q3:(b2:Int) < 128:=by omega
       have HR:=hZ (show r=true by rw [← hr];simp;omega)
       clear hr hn T hx1 hx2
       go_enter Tryz.func184,Tryz.ntmps184
       go_wp2
       go_quiet (fail)
       go_wp2
       go_ret
       exact⟨ret_bool HR.out.symm,below_drewN ((Below.refl _ _).alloc (Nat.le_refl _) _) _⟩
      ·have q3:¬ ((b2:Int) < 128):=by omega
       by_cases hhi2:191 < b2
       ·have q4:(191:Int) < b2:=by omega
        have HR:=hZ (show r=true by rw [← hr];simp;omega)
        clear hr hn T hx1 hx2
        go_enter Tryz.func184,Tryz.ntmps184
        go_wp2
        go_quiet (fail)
        go_wp2
        go_ret
        exact⟨ret_bool HR.out.symm,below_drewN ((Below.refl _ _).alloc (Nat.le_refl _) _) _⟩
       ·have q4:¬ ((191:Int) < b2):=by omega
        have HR:=hZ (show r=false by rw [← hr];simp;omega)
        clear hr hn T hx1 hx2
        go_enter Tryz.func184,Tryz.ntmps184
        go_wp2
        go_quiet (fail)
        go_wp2
        go_ret
        exact⟨ret_bool HR.out.symm,below_drewN ((Below.refl _ _).alloc (Nat.le_refl _) _) _⟩
     ·have hd2:decide (2 < (s.size:Int))=false:=by simp;omega
      have hlt2:¬ ((2:Int) < s.size):=by omega
      have HR:=hZ (show r=false by rw [← hr];simp;omega)
      clear hr hn T hx1 hx2
      go_enter Tryz.func184,Tryz.ntmps184
      go_wp2
      go_quiet (fail)
      go_wp2
      go_ret
      exact⟨ret_bool HR.out.symm,below_drewN ((Below.refl _ _).alloc (Nat.le_refl _) _) _⟩
  ·have hd1:decide (1 < (s.size:Int))=false:=by simp;omega
   have hlt1:¬ ((1:Int) < s.size):=by omega
   have hd2:decide (2 < (s.size:Int))=false:=by simp;omega
   have hlt2:¬ ((2:Int) < s.size):=by omega
   have HR:=hZ (show r=false by rw [← hr];simp;omega)
   clear hr hn T hx1 hx2
   go_enter Tryz.func184,Tryz.ntmps184
   go_wp2
   go_quiet (fail)
   go_wp2
   go_ret
   exact⟨ret_bool HR.out.symm,below_drewN ((Below.refl _ _).alloc (Nat.le_refl _) _) _⟩
set_option maxRecDepth 100000 in
theorem full_68 (s:ByteArray) (w:World) (T:Tab w) (h0:0 < s.size) (hm:s.size≤maxLen) (hX:Lib.firstT ((bl s).getD 0 0)=68) (r:Bool) (hr:Utf.full (bl s)=r) :
 Calls Tryz.prog 184 #[.string s] w fun e w'=>e=.returned (.bool r)∧Below w.heap.size w w':=by
 unfold maxLen at hm
 have hx0:=bl_at s 0 h0
 have hb0:=Utf.getD_byte (bl_byte s) 0
 have hc:=T.1 ((bl s).getD 0 0) hb0
 have hx1:∀ h:1 < s.size,_:=bl_at s 1
 have hx2:∀ h:2 < s.size,_:=bl_at s 2
 have hb1:=Utf.getD_byte (bl_byte s) 1
 have hb2:=Utf.getD_byte (bl_byte s) 2
 unfold Utf.full at hr
 simp only [hX,bl_length] at hr
 rw [hX] at hc
 have hne:decide (0 < s.size)=true:=by simp;omega
 have hz:((s.size:Int) == 0)=false:=by rw [beq_eq_false_iff_ne];omega
 have ha:bits BinOp.and IntKind.u8 68 7=4:=by decide
 have hl0:=(T.2 4 (by omega)).1
 have hl1:=(T.2 4 (by omega)).2
 simp [Lib.accLo,Lib.accHi] at hl0 hl1
 generalize (bl s).getD 0 0=b0 at *
 generalize (bl s).getD 1 0=b1 at *
 generalize (bl s).getD 2 0=b2 at *
 by_cases hn:4≤s.size
 ·have hr2:r=true:=by rw [← hr,if_neg (by omega),if_pos (by omega)]
  have HR:=hZ hr2
  have hn':(4:Int)≤s.size:=by omega
  clear hr hr2 hn T hx1 hx2
  go_enter Tryz.func184,Tryz.ntmps184
  go_wp2
  go_ret
  exact⟨ret_bool HR.out.symm,Below.refl _ _⟩
 ·have hn':¬ ((4:Int)≤s.size):=by omega
  rw [if_neg (by omega),if_neg (by omega)] at hr
  simp [Lib.accLo,Lib.accHi] at hr
  by_cases hs1:1 < s.size
  ·skip
   have hy1:=hx1 hs1
   have hd1:decide (1 < (s.size:Int))=true:=by simp;omega
   have hlt1:(1:Int) < s.size:=by omega
   by_cases hlo:b1 < 128
   ·have q1:(b1:Int) < 128:=by omega
    have HR:=hZ (show r=true by rw [← hr];simp;omega)
    clear hr hn T hx1 hx2
    go_enter Tryz.func184,Tryz.ntmps184
    go_wp2
    go_quiet (fail)
    go_wp2
    go_ret
    exact⟨ret_bool HR.out.symm,below_drewN ((Below.refl _ _).alloc (Nat.le_refl _) _) _⟩
   ·have q1:¬ ((b1:Int) < 128):=by omega
    by_cases hhi:143 < b1
    ·have q2:(143:Int) < b1:=by omega
     have HR:=hZ (show r=true by rw [← hr];simp;omega)
     clear hr hn T hx1 hx2
     go_enter Tryz.func184,Tryz.ntmps184
     go_wp2
     go_quiet (fail)
     go_wp2
     go_ret
     exact⟨ret_bool HR.out.symm,below_drewN ((Below.refl _ _).alloc (Nat.le_refl _) _) _⟩
    ·have q2:¬ ((143:Int) < b1):=by omega
     by_cases hs2:2 < s.size
     ·have hy2:=hx2 hs2
      have hd2:decide (2 < (s.size:Int))=true:=by simp;omega
      have hlt2:(2:Int) < s.size:=by omega
      by_cases hlo2:b2 < 128
      ·have q3:(b2:Int) < 128:=by omega
       have HR:=hZ (show r=true by rw [← hr];simp;omega)
       clear hr hn T hx1 hx2
       go_enter Tryz.func184,Tryz.ntmps184
       go_wp2
       go_quiet (fail)
       go_wp2
       go_ret
       exact⟨ret_bool HR.out.symm,below_drewN ((Below.refl _ _).alloc (Nat.le_refl _) _) _⟩
      ·have q3:¬ ((b2:Int) < 128):=by omega
       by_cases hhi2:191 < b2
       ·have q4:(191:Int) < b2:=by omega
        have HR:=hZ (show r=true by rw [← hr];simp;omega)
        clear hr hn T hx1 hx2
        go_enter Tryz.func184,Tryz.ntmps184
        go_wp2
        go_quiet (fail)
        go_wp2
        go_ret
        exact⟨ret_bool HR.out.symm,below_drewN ((Below.refl _ _).alloc (Nat.le_refl _) _) _⟩
       ·have q4:¬ ((191:Int) < b2):=by omega
        have HR:=hZ (show r=false by rw [← hr];simp;omega)
        clear hr hn T hx1 hx2
        go_enter Tryz.func184,Tryz.ntmps184
        go_wp2
        go_quiet (fail)
        go_wp2
        go_ret
        exact⟨ret_bool HR.out.symm,below_drewN ((Below.refl _ _).alloc (Nat.le_refl _) _) _⟩
     ·have hd2:decide (2 < (s.size:Int))=false:=by simp;omega
      have hlt2:¬ ((2:Int) < s.size):=by omega
      have HR:=hZ (show r=false by rw [← hr];simp;omega)
      clear hr hn T hx1 hx2
      go_enter Tryz.func184,Tryz.ntmps184
      go_wp2
      go_quiet (fail)
      go_wp2
      go_ret
      exact⟨ret_bool HR.out.symm,below_drewN ((Below.refl _ _).alloc (Nat.le_refl _) _) _⟩
  ·have hd1:decide (1 < (s.size:Int))=false:=by simp;omega
   have hlt1:¬ ((1:Int) < s.size):=by omega
   have hd2:decide (2 < (s.size:Int))=false:=by simp;omega
   have hlt2:¬ ((2:Int) < s.size):=by omega
   have HR:=hZ (show r=false by rw [← hr];simp;omega)
   clear hr hn T hx1 hx2
   go_enter Tryz.func184,Tryz.ntmps184
   go_wp2
   go_quiet (fail)
   go_wp2
   go_ret
   exact⟨ret_bool HR.out.symm,below_drewN ((Below.refl _ _).alloc (Nat.le_refl _) _) _⟩
theorem full_is (s:ByteArray) (w:World) (T:Tab w) (h0:0 < s.size) (hm:s.size≤maxLen) (r:Bool) (hr:Utf.full (bl s)=r) :
 Calls Tryz.prog 184 #[.string s] w fun e w'=>e=.returned (.bool r)∧Below w.heap.size w w':=by
 rcases Lib.firstT_cases ((bl s).getD 0 0) with h|h|h|h|h|h|h|h|h
 ·exact full_240 s w T h0 hm h r hr
 ·exact full_241 s w T h0 hm h r hr
 ·exact full_2 s w T h0 hm h r hr
 ·exact full_19 s w T h0 hm h r hr
 ·exact full_3 s w T h0 hm h r hr
 ·exact full_35 s w T h0 hm h r hr
 ·exact full_52 s w T h0 hm h r hr
 ·exact full_4 s w T h0 hm h r hr
 ·exact full_68 s w T h0 hm h r hr
end Go.Proofs.YtenfjmdajlhfoabGreatDoor
