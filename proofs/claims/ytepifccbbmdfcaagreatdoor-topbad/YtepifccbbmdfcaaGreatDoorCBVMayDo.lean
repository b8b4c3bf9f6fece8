/- VMayDo. -/
import Derived.Test.YtepifccbbmdfcaaGreatDoorCBVBehindA
namespace Go.Proofs.YtepifccbbmdfcaaGreatDoor
set_option maxRecDepth 100000
set_option maxHeartbeats 8000000
open Go.RowKit
theorem vBoxes2 (w:World) (o0 o1:Obj):((w.alloc o0).alloc o1).heap[w.heap.size]?=some o0/\((w.alloc o0).alloc o1).heap[w.heap.size+1]?=some o1/\Below w.heap.size w ((w.alloc o0).alloc o1)/\w.heap.size+1+1<=((w.alloc o0).alloc o1).heap.size:=by
 have s1:(w.alloc o0).heap.size=w.heap.size+1:=by simp
 exact⟨(Deep.blk_alloc_lt _ _ _ (by omega)).trans (Deep.blk_alloc_new w o0),by rw[<- s1];exact Deep.blk_alloc_new _ o1,(below_box w o0).alloc (by omega) _,by simp⟩
theorem mayDo0_any (n:Int) (a b:Nat) (k:List Int) (w:World) (ha:a<8) (hb:b<8) :
  Calls Tryz.prog 47 #[insV 0 a b n,regV k] w fun e w'=>e=.returned (.bool (vMayDo 0 a b k))/\Below w.heap.size w w':=by
 obtain⟨r,hr⟩:∃ r,r=vMayDo 0 a b k:=⟨_,rfl⟩;have HR:Aside (r=vMayDo 0 a b k):=hr;rw[<- hr];clear hr;have haz:(a:Int)<8:=by omega
 have hbz:(b:Int)<8:=by omega
 go_enter Tryz.func47,Tryz.ntmps47
 go_upto_region 1 with fail
 obtain⟨N0,N1,b1,hs⟩:=vBoxes2 w (Obj.cells #[.int .i64 0,.int .i64 a,.int .i64 b,.int .i64 n] 43) (Obj.cells (regA k) 99);generalize (w.alloc (Obj.cells #[.int .i64 0,.int .i64 a,.int .i64 b,.int .i64 n] 43)).alloc (Obj.cells (regA k) 99)=W at *;have i0:=vCell_blk N0 0;have i1:=vCell_blk N0 1;have i2:=vCell_blk N0 2;simp at i0 i1 i2;have ra:=reg_at N1 ha;have rb:=reg_at N1 hb;have r0:W.cell? ⟨w.heap.size+1,0,none⟩=some (.int .i64 (vAt k 0)):=reg_at N1 (a:=0) (by omega)
 clear N0 N1
 go_quiet (fail)
 have bq:=below_drewN b1 nq;have kq:=Keeps.drewN W nq;replace i0:=kq _ _ i0;replace r0:=kq _ _ r0;clear i1 i2 ra rb b1 kq;generalize W.drewN nq=wq at *
 cases t0:vObj (vAt k 0) with
 | false =>
  have HV:r=false:=by rw[HR.out];(try simp at t0);simp[vMayDo,t0]
  go_wp2_with (go_at_call 72;refine(vIsObject_any _ _).mono ?_;rintro e w' ⟨rfl,rfl⟩;try (first | rw[t0]))
  go_ret
  exact⟨by rw[HV];rfl,bq⟩
 | true =>
  have HV:r=true:=by rw[HR.out];(try simp at t0);simp[vMayDo,t0]
  go_wp2_with (go_at_call 72;refine(vIsObject_any _ _).mono ?_;rintro e w' ⟨rfl,rfl⟩;try (first | rw[t0]))
  go_ret
  exact⟨by rw[HV];rfl,bq⟩
theorem mayDo1_any (n:Int) (a b:Nat) (k:List Int) (w:World) (ha:a<8) (hb:b<8) :
  Calls Tryz.prog 47 #[insV 1 a b n,regV k] w fun e w'=>e=.returned (.bool (vMayDo 1 a b k))/\Below w.heap.size w w':=by
 obtain⟨r,hr⟩:∃ r,r=vMayDo 1 a b k:=⟨_,rfl⟩;have HR:Aside (r=vMayDo 1 a b k):=hr;rw[<- hr];clear hr;have haz:(a:Int)<8:=by omega
 have hbz:(b:Int)<8:=by omega
 go_enter Tryz.func47,Tryz.ntmps47
 go_upto_region 1 with fail
 obtain⟨N0,N1,b1,hs⟩:=vBoxes2 w (Obj.cells #[.int .i64 1,.int .i64 a,.int .i64 b,.int .i64 n] 43) (Obj.cells (regA k) 99);generalize (w.alloc (Obj.cells #[.int .i64 1,.int .i64 a,.int .i64 b,.int .i64 n] 43)).alloc (Obj.cells (regA k) 99)=W at *;have i0:=vCell_blk N0 0;have i1:=vCell_blk N0 1;have i2:=vCell_blk N0 2;simp at i0 i1 i2;have ra:=reg_at N1 ha;have rb:=reg_at N1 hb;have r0:W.cell? ⟨w.heap.size+1,0,none⟩=some (.int .i64 (vAt k 0)):=reg_at N1 (a:=0) (by omega)
 clear N0 N1
 go_quiet (fail)
 have bq:=below_drewN b1 nq;have kq:=Keeps.drewN W nq;replace i0:=kq _ _ i0;replace r0:=kq _ _ r0;clear i1 i2 ra rb b1 kq;generalize W.drewN nq=wq at *;have HV:r=true:=by rw[HR.out];simp[vMayDo]
 go_wp2
 go_ret
 exact⟨by rw[HV];rfl,bq⟩
theorem mayDo2_any (n:Int) (a b:Nat) (k:List Int) (w:World) (ha:a<8) (hb:b<8) :
  Calls Tryz.prog 47 #[insV 2 a b n,regV k] w fun e w'=>e=.returned (.bool (vMayDo 2 a b k))/\Below w.heap.size w w':=by
 obtain⟨r,hr⟩:∃ r,r=vMayDo 2 a b k:=⟨_,rfl⟩;have HR:Aside (r=vMayDo 2 a b k):=hr;rw[<- hr];clear hr;have haz:(a:Int)<8:=by omega
 have hbz:(b:Int)<8:=by omega
 go_enter Tryz.func47,Tryz.ntmps47
 go_upto_region 1 with fail
 obtain⟨N0,N1,b1,hs⟩:=vBoxes2 w (Obj.cells #[.int .i64 2,.int .i64 a,.int .i64 b,.int .i64 n] 43) (Obj.cells (regA k) 99);generalize (w.alloc (Obj.cells #[.int .i64 2,.int .i64 a,.int .i64 b,.int .i64 n] 43)).alloc (Obj.cells (regA k) 99)=W at *;have i0:=vCell_blk N0 0;have i1:=vCell_blk N0 1;have i2:=vCell_blk N0 2;simp at i0 i1 i2;have ra:=reg_at N1 ha;have rb:=reg_at N1 hb;have r0:W.cell? ⟨w.heap.size+1,0,none⟩=some (.int .i64 (vAt k 0)):=reg_at N1 (a:=0) (by omega)
 clear N0 N1
 go_quiet (fail)
 have bq:=below_drewN b1 nq;have kq:=Keeps.drewN W nq;replace i0:=kq _ _ i0;replace r0:=kq _ _ r0;clear i1 i2 ra rb b1 kq;generalize W.drewN nq=wq at *
 cases t0:(vAt k a == 1) with
 | false =>
  have HV:r=false:=by rw[HR.out];(try simp at t0);simp[vMayDo,t0]
  go_wp2
  go_ret
  exact⟨by rw[HV];rfl,bq⟩
 | true =>
  cases t1:(vAt k b == 1) with
  | false =>
   have HV:r=false:=by rw[HR.out];(try simp at t1);simp[vMayDo,t1]
   go_wp2
   go_ret
   exact⟨by rw[HV];rfl,bq⟩
  | true =>
   have HV:r=true:=by rw[HR.out];(try simp at t0);(try simp at t1);simp[vMayDo,t0,t1]
   go_wp2
   go_ret
   exact⟨by rw[HV];rfl,bq⟩
theorem mayDo3_any (n:Int) (a b:Nat) (k:List Int) (w:World) (ha:a<8) (hb:b<8) :
  Calls Tryz.prog 47 #[insV 3 a b n,regV k] w fun e w'=>e=.returned (.bool (vMayDo 3 a b k))/\Below w.heap.size w w':=by
 obtain⟨r,hr⟩:∃ r,r=vMayDo 3 a b k:=⟨_,rfl⟩;have HR:Aside (r=vMayDo 3 a b k):=hr;rw[<- hr];clear hr;have haz:(a:Int)<8:=by omega
 have hbz:(b:Int)<8:=by omega
 go_enter Tryz.func47,Tryz.ntmps47
 go_upto_region 1 with fail
 obtain⟨N0,N1,b1,hs⟩:=vBoxes2 w (Obj.cells #[.int .i64 3,.int .i64 a,.int .i64 b,.int .i64 n] 43) (Obj.cells (regA k) 99);generalize (w.alloc (Obj.cells #[.int .i64 3,.int .i64 a,.int .i64 b,.int .i64 n] 43)).alloc (Obj.cells (regA k) 99)=W at *;have i0:=vCell_blk N0 0;have i1:=vCell_blk N0 1;have i2:=vCell_blk N0 2;simp at i0 i1 i2;have ra:=reg_at N1 ha;have rb:=reg_at N1 hb;have r0:W.cell? ⟨w.heap.size+1,0,none⟩=some (.int .i64 (vAt k 0)):=reg_at N1 (a:=0) (by omega)
 clear N0 N1
 go_quiet (fail)
 have bq:=below_drewN b1 nq;have kq:=Keeps.drewN W nq;replace i0:=kq _ _ i0;replace r0:=kq _ _ r0;clear i1 i2 ra rb b1 kq;generalize W.drewN nq=wq at *
 cases t0:(vAt k a == 1) with
 | false =>
  have HV:r=false:=by rw[HR.out];(try simp at t0);simp[vMayDo,t0]
  go_wp2
  go_ret
  exact⟨by rw[HV];rfl,bq⟩
 | true =>
  cases t1:(vAt k b == 1) with
  | false =>
   have HV:r=false:=by rw[HR.out];(try simp at t1);simp[vMayDo,t1]
   go_wp2
   go_ret
   exact⟨by rw[HV];rfl,bq⟩
  | true =>
   have HV:r=true:=by rw[HR.out];(try simp at t0);(try simp at t1);simp[vMayDo,t0,t1]
   go_wp2
   go_ret
   exact⟨by rw[HV];rfl,bq⟩
theorem mayDo4_any (n:Int) (a b:Nat) (k:List Int) (w:World) (ha:a<8) (hb:b<8) :
  Calls Tryz.prog 47 #[insV 4 a b n,regV k] w fun e w'=>e=.returned (.bool (vMayDo 4 a b k))/\Below w.heap.size w w':=by
 obtain⟨r,hr⟩:∃ r,r=vMayDo 4 a b k:=⟨_,rfl⟩;have HR:Aside (r=vMayDo 4 a b k):=hr;rw[<- hr];clear hr;have haz:(a:Int)<8:=by omega
 have hbz:(b:Int)<8:=by omega
 go_enter Tryz.func47,Tryz.ntmps47
 go_upto_region 1 with fail
 obtain⟨N0,N1,b1,hs⟩:=vBoxes2 w (Obj.cells #[.int .i64 4,.int .i64 a,.int .i64 b,.int .i64 n] 43) (Obj.cells (regA k) 99);generalize (w.alloc (Obj.cells #[.int .i64 4,.int .i64 a,.int .i64 b,.int .i64 n] 43)).alloc (Obj.cells (regA k) 99)=W at *;have i0:=vCell_blk N0 0;have i1:=vCell_blk N0 1;have i2:=vCell_blk N0 2;simp at i0 i1 i2;have ra:=reg_at N1 ha;have rb:=reg_at N1 hb;have r0:W.cell? ⟨w.heap.size+1,0,none⟩=some (.int .i64 (vAt k 0)):=reg_at N1 (a:=0) (by omega)
 clear N0 N1
 go_quiet (fail)
 have bq:=below_drewN b1 nq;have kq:=Keeps.drewN W nq;replace i0:=kq _ _ i0;replace r0:=kq _ _ r0;clear i1 i2 ra rb b1 kq;generalize W.drewN nq=wq at *
 cases t0:(vAt k a == 1) with
 | false =>
  have HV:r=false:=by rw[HR.out];(try simp at t0);simp[vMayDo,t0]
  go_wp2
  go_ret
  exact⟨by rw[HV];rfl,bq⟩
 | true =>
  cases t1:(vAt k b == 1) with
  | false =>
   have HV:r=false:=by rw[HR.out];(try simp at t1);simp[vMayDo,t1]
   go_wp2
   go_ret
   exact⟨by rw[HV];rfl,bq⟩
  | true =>
   have HV:r=true:=by rw[HR.out];(try simp at t0);(try simp at t1);simp[vMayDo,t0,t1]
   go_wp2
   go_ret
   exact⟨by rw[HV];rfl,bq⟩
theorem mayDo5_any (n:Int) (a b:Nat) (k:List Int) (w:World) (ha:a<8) (hb:b<8) :
  Calls Tryz.prog 47 #[insV 5 a b n,regV k] w fun e w'=>e=.returned (.bool (vMayDo 5 a b k))/\Below w.heap.size w w':=by
 obtain⟨r,hr⟩:∃ r,r=vMayDo 5 a b k:=⟨_,rfl⟩;have HR:Aside (r=vMayDo 5 a b k):=hr;rw[<- hr];clear hr;have haz:(a:Int)<8:=by omega
 have hbz:(b:Int)<8:=by omega
 go_enter Tryz.func47,Tryz.ntmps47
 go_upto_region 1 with fail
 obtain⟨N0,N1,b1,hs⟩:=vBoxes2 w (Obj.cells #[.int .i64 5,.int .i64 a,.int .i64 b,.int .i64 n] 43) (Obj.cells (regA k) 99);generalize (w.alloc (Obj.cells #[.int .i64 5,.int .i64 a,.int .i64 b,.int .i64 n] 43)).alloc (Obj.cells (regA k) 99)=W at *;have i0:=vCell_blk N0 0;have i1:=vCell_blk N0 1;have i2:=vCell_blk N0 2;simp at i0 i1 i2;have ra:=reg_at N1 ha;have rb:=reg_at N1 hb;have r0:W.cell? ⟨w.heap.size+1,0,none⟩=some (.int .i64 (vAt k 0)):=reg_at N1 (a:=0) (by omega)
 clear N0 N1
 go_quiet (fail)
 have bq:=below_drewN b1 nq;have kq:=Keeps.drewN W nq;replace i0:=kq _ _ i0;replace r0:=kq _ _ r0;clear i1 i2 ra rb b1 kq;generalize W.drewN nq=wq at *
 cases t0:(vAt k a == 1) with
 | false =>
  have HV:r=false:=by rw[HR.out];(try simp at t0);simp[vMayDo,t0]
  go_wp2
  go_ret
  exact⟨by rw[HV];rfl,bq⟩
 | true =>
  have HV:r=true:=by rw[HR.out];(try simp at t0);simp[vMayDo,t0]
  go_wp2
  go_ret
  exact⟨by rw[HV];rfl,bq⟩
theorem mayDo6_any (n:Int) (a b:Nat) (k:List Int) (w:World) (ha:a<8) (hb:b<8) :
  Calls Tryz.prog 47 #[insV 6 a b n,regV k] w fun e w'=>e=.returned (.bool (vMayDo 6 a b k))/\Below w.heap.size w w':=by
 obtain⟨r,hr⟩:∃ r,r=vMayDo 6 a b k:=⟨_,rfl⟩;have HR:Aside (r=vMayDo 6 a b k):=hr;rw[<- hr];clear hr;have haz:(a:Int)<8:=by omega
 have hbz:(b:Int)<8:=by omega
 go_enter Tryz.func47,Tryz.ntmps47
 go_upto_region 1 with fail
 obtain⟨N0,N1,b1,hs⟩:=vBoxes2 w (Obj.cells #[.int .i64 6,.int .i64 a,.int .i64 b,.int .i64 n] 43) (Obj.cells (regA k) 99);generalize (w.alloc (Obj.cells #[.int .i64 6,.int .i64 a,.int .i64 b,.int .i64 n] 43)).alloc (Obj.cells (regA k) 99)=W at *;have i0:=vCell_blk N0 0;have i1:=vCell_blk N0 1;have i2:=vCell_blk N0 2;simp at i0 i1 i2;have ra:=reg_at N1 ha;have rb:=reg_at N1 hb;have r0:W.cell? ⟨w.heap.size+1,0,none⟩=some (.int .i64 (vAt k 0)):=reg_at N1 (a:=0) (by omega)
 clear N0 N1
 go_quiet (fail)
 have bq:=below_drewN b1 nq;have kq:=Keeps.drewN W nq;replace i0:=kq _ _ i0;replace r0:=kq _ _ r0;clear i1 i2 ra rb b1 kq;generalize W.drewN nq=wq at *;have HV:r=true:=by rw[HR.out];simp[vMayDo]
 go_wp2
 go_ret
 exact⟨by rw[HV];rfl,bq⟩
theorem mayDo7_any (n:Int) (a b:Nat) (k:List Int) (w:World) (ha:a<8) (hb:b<8) :
  Calls Tryz.prog 47 #[insV 7 a b n,regV k] w fun e w'=>e=.returned (.bool (vMayDo 7 a b k))/\Below w.heap.size w w':=by
 obtain⟨r,hr⟩:∃ r,r=vMayDo 7 a b k:=⟨_,rfl⟩;have HR:Aside (r=vMayDo 7 a b k):=hr;rw[<- hr];clear hr;have haz:(a:Int)<8:=by omega
 have hbz:(b:Int)<8:=by omega
 go_enter Tryz.func47,Tryz.ntmps47
 go_upto_region 1 with fail
 obtain⟨N0,N1,b1,hs⟩:=vBoxes2 w (Obj.cells #[.int .i64 7,.int .i64 a,.int .i64 b,.int .i64 n] 43) (Obj.cells (regA k) 99);generalize (w.alloc (Obj.cells #[.int .i64 7,.int .i64 a,.int .i64 b,.int .i64 n] 43)).alloc (Obj.cells (regA k) 99)=W at *;have i0:=vCell_blk N0 0;have i1:=vCell_blk N0 1;have i2:=vCell_blk N0 2;simp at i0 i1 i2;have ra:=reg_at N1 ha;have rb:=reg_at N1 hb;have r0:W.cell? ⟨w.heap.size+1,0,none⟩=some (.int .i64 (vAt k 0)):=reg_at N1 (a:=0) (by omega)
 clear N0 N1
 go_quiet (fail)
 have bq:=below_drewN b1 nq;have kq:=Keeps.drewN W nq;replace i0:=kq _ _ i0;replace r0:=kq _ _ r0;clear i1 i2 ra rb b1 kq;generalize W.drewN nq=wq at *;have HV:r=true:=by rw[HR.out];simp[vMayDo]
 go_wp2
 go_ret
 exact⟨by rw[HV];rfl,bq⟩
theorem mayDo8_any (n:Int) (a b:Nat) (k:List Int) (w:World) (ha:a<8) (hb:b<8) :
  Calls Tryz.prog 47 #[insV 8 a b n,regV k] w fun e w'=>e=.returned (.bool (vMayDo 8 a b k))/\Below w.heap.size w w':=by
 obtain⟨r,hr⟩:∃ r,r=vMayDo 8 a b k:=⟨_,rfl⟩;have HR:Aside (r=vMayDo 8 a b k):=hr;rw[<- hr];clear hr;have haz:(a:Int)<8:=by omega
 have hbz:(b:Int)<8:=by omega
 go_enter Tryz.func47,Tryz.ntmps47
 go_upto_region 1 with fail
 obtain⟨N0,N1,b1,hs⟩:=vBoxes2 w (Obj.cells #[.int .i64 8,.int .i64 a,.int .i64 b,.int .i64 n] 43) (Obj.cells (regA k) 99);generalize (w.alloc (Obj.cells #[.int .i64 8,.int .i64 a,.int .i64 b,.int .i64 n] 43)).alloc (Obj.cells (regA k) 99)=W at *;have i0:=vCell_blk N0 0;have i1:=vCell_blk N0 1;have i2:=vCell_blk N0 2;simp at i0 i1 i2;have ra:=reg_at N1 ha;have rb:=reg_at N1 hb;have r0:W.cell? ⟨w.heap.size+1,0,none⟩=some (.int .i64 (vAt k 0)):=reg_at N1 (a:=0) (by omega)
 clear N0 N1
 go_quiet (fail)
 have bq:=below_drewN b1 nq;have kq:=Keeps.drewN W nq;replace i0:=kq _ _ i0;replace r0:=kq _ _ r0;clear i1 i2 ra rb b1 kq;generalize W.drewN nq=wq at *
 cases t0:vObj (vAt k b) with
 | false =>
  have HV:r=false:=by rw[HR.out];(try simp at t0);simp[vMayDo,t0]
  go_wp2_with (go_at_call 72;refine(vIsObject_any _ _).mono ?_;rintro e w' ⟨rfl,rfl⟩;try (first | rw[t0]))
  go_ret
  exact⟨by rw[HV];rfl,bq⟩
 | true =>
  have HV:r=true:=by rw[HR.out];(try simp at t0);simp[vMayDo,t0]
  go_wp2_with (go_at_call 72;refine(vIsObject_any _ _).mono ?_;rintro e w' ⟨rfl,rfl⟩;try (first | rw[t0]))
  go_ret
  exact⟨by rw[HV];rfl,bq⟩
theorem mayDo9_any (n:Int) (a b:Nat) (k:List Int) (w:World) (ha:a<8) (hb:b<8) :
  Calls Tryz.prog 47 #[insV 9 a b n,regV k] w fun e w'=>e=.returned (.bool (vMayDo 9 a b k))/\Below w.heap.size w w':=by
 obtain⟨r,hr⟩:∃ r,r=vMayDo 9 a b k:=⟨_,rfl⟩;have HR:Aside (r=vMayDo 9 a b k):=hr;rw[<- hr];clear hr;have haz:(a:Int)<8:=by omega
 have hbz:(b:Int)<8:=by omega
 go_enter Tryz.func47,Tryz.ntmps47
 go_upto_region 1 with fail
 obtain⟨N0,N1,b1,hs⟩:=vBoxes2 w (Obj.cells #[.int .i64 9,.int .i64 a,.int .i64 b,.int .i64 n] 43) (Obj.cells (regA k) 99);generalize (w.alloc (Obj.cells #[.int .i64 9,.int .i64 a,.int .i64 b,.int .i64 n] 43)).alloc (Obj.cells (regA k) 99)=W at *;have i0:=vCell_blk N0 0;have i1:=vCell_blk N0 1;have i2:=vCell_blk N0 2;simp at i0 i1 i2;have ra:=reg_at N1 ha;have rb:=reg_at N1 hb;have r0:W.cell? ⟨w.heap.size+1,0,none⟩=some (.int .i64 (vAt k 0)):=reg_at N1 (a:=0) (by omega)
 clear N0 N1
 go_quiet (fail)
 have bq:=below_drewN b1 nq;have kq:=Keeps.drewN W nq;replace i0:=kq _ _ i0;replace r0:=kq _ _ r0;clear i1 i2 ra rb b1 kq;generalize W.drewN nq=wq at *
 cases t0:vObj (vAt k a) with
 | false =>
  have HV:r=false:=by rw[HR.out];(try simp at t0);simp[vMayDo,t0]
  go_wp2_with (go_at_call 72;refine(vIsObject_any _ _).mono ?_;rintro e w' ⟨rfl,rfl⟩;try (first | rw[t0]))
  go_ret
  exact⟨by rw[HV];rfl,bq⟩
 | true =>
  cases t1:(vAt k b == 1) with
  | false =>
   have HV:r=false:=by rw[HR.out];(try simp at t1);simp[vMayDo,t1]
   go_wp2_with (go_at_call 72;refine(vIsObject_any _ _).mono ?_;rintro e w' ⟨rfl,rfl⟩;try (first | rw[t0]))
   go_ret
   exact⟨by rw[HV];rfl,bq⟩
  | true =>
   have HV:r=true:=by rw[HR.out];(try simp at t0);(try simp at t1);simp[vMayDo,t0,t1]
   go_wp2_with (go_at_call 72;refine(vIsObject_any _ _).mono ?_;rintro e w' ⟨rfl,rfl⟩;try (first | rw[t0]))
   go_ret
   exact⟨by rw[HV];rfl,bq⟩
theorem mayDo10_any (n:Int) (a b:Nat) (k:List Int) (w:World) (ha:a<8) (hb:b<8) :
  Calls Tryz.prog 47 #[insV 10 a b n,regV k] w fun e w'=>e=.returned (.bool (vMayDo 10 a b k))/\Below w.heap.size w w':=by
 obtain⟨r,hr⟩:∃ r,r=vMayDo 10 a b k:=⟨_,rfl⟩;have HR:Aside (r=vMayDo 10 a b k):=hr;rw[<- hr];clear hr;have haz:(a:Int)<8:=by omega
 have hbz:(b:Int)<8:=by omega
 go_enter Tryz.func47,Tryz.ntmps47
 go_upto_region 1 with fail
 obtain⟨N0,N1,b1,hs⟩:=vBoxes2 w (Obj.cells #[.int .i64 10,.int .i64 a,.int .i64 b,.int .i64 n] 43) (Obj.cells (regA k) 99);generalize (w.alloc (Obj.cells #[.int .i64 10,.int .i64 a,.int .i64 b,.int .i64 n] 43)).alloc (Obj.cells (regA k) 99)=W at *;have i0:=vCell_blk N0 0;have i1:=vCell_blk N0 1;have i2:=vCell_blk N0 2;simp at i0 i1 i2;have ra:=reg_at N1 ha;have rb:=reg_at N1 hb;have r0:W.cell? ⟨w.heap.size+1,0,none⟩=some (.int .i64 (vAt k 0)):=reg_at N1 (a:=0) (by omega)
 clear N0 N1
 go_quiet (fail)
 have bq:=below_drewN b1 nq;have kq:=Keeps.drewN W nq;replace i0:=kq _ _ i0;replace r0:=kq _ _ r0;clear i1 i2 ra rb b1 kq;generalize W.drewN nq=wq at *
 cases t0:vObj (vAt k b) with
 | false =>
  have HV:r=false:=by rw[HR.out];(try simp at t0);simp[vMayDo,t0]
  go_wp2_with (go_at_call 72;refine(vIsObject_any _ _).mono ?_;rintro e w' ⟨rfl,rfl⟩;try (first | rw[t0]))
  go_ret
  exact⟨by rw[HV];rfl,bq⟩
 | true =>
  have HV:r=true:=by rw[HR.out];(try simp at t0);simp[vMayDo,t0]
  go_wp2_with (go_at_call 72;refine(vIsObject_any _ _).mono ?_;rintro e w' ⟨rfl,rfl⟩;try (first | rw[t0]))
  go_ret
  exact⟨by rw[HV];rfl,bq⟩
theorem mayDo11_any (n:Int) (a b:Nat) (k:List Int) (w:World) (ha:a<8) (hb:b<8) :
  Calls Tryz.prog 47 #[insV 11 a b n,regV k] w fun e w'=>e=.returned (.bool (vMayDo 11 a b k))/\Below w.heap.size w w':=by
 obtain⟨r,hr⟩:∃ r,r=vMayDo 11 a b k:=⟨_,rfl⟩;have HR:Aside (r=vMayDo 11 a b k):=hr;rw[<- hr];clear hr;have haz:(a:Int)<8:=by omega
 have hbz:(b:Int)<8:=by omega
 go_enter Tryz.func47,Tryz.ntmps47
 go_upto_region 1 with fail
 obtain⟨N0,N1,b1,hs⟩:=vBoxes2 w (Obj.cells #[.int .i64 11,.int .i64 a,.int .i64 b,.int .i64 n] 43) (Obj.cells (regA k) 99);generalize (w.alloc (Obj.cells #[.int .i64 11,.int .i64 a,.int .i64 b,.int .i64 n] 43)).alloc (Obj.cells (regA k) 99)=W at *;have i0:=vCell_blk N0 0;have i1:=vCell_blk N0 1;have i2:=vCell_blk N0 2;simp at i0 i1 i2;have ra:=reg_at N1 ha;have rb:=reg_at N1 hb;have r0:W.cell? ⟨w.heap.size+1,0,none⟩=some (.int .i64 (vAt k 0)):=reg_at N1 (a:=0) (by omega)
 clear N0 N1
 go_quiet (fail)
 have bq:=below_drewN b1 nq;have kq:=Keeps.drewN W nq;replace i0:=kq _ _ i0;replace r0:=kq _ _ r0;clear i1 i2 ra rb b1 kq;generalize W.drewN nq=wq at *
 cases t0:vObj (vAt k a) with
 | false =>
  have HV:r=false:=by rw[HR.out];(try simp at t0);simp[vMayDo,t0]
  go_wp2_with (go_at_call 72;refine(vIsObject_any _ _).mono ?_;rintro e w' ⟨rfl,rfl⟩;try (first | rw[t0]))
  go_ret
  exact⟨by rw[HV];rfl,bq⟩
 | true =>
  cases t1:vObj (vAt k b) with
  | false =>
   have HV:r=false:=by rw[HR.out];(try simp at t1);simp[vMayDo,t1]
   go_wp2_with (go_at_call 72;refine(vIsObject_any _ _).mono ?_;rintro e w' ⟨rfl,rfl⟩;try (first | rw[t0] | rw[t1]))
   go_ret
   exact⟨by rw[HV];rfl,bq⟩
  | true =>
   have HV:r=true:=by rw[HR.out];(try simp at t0);(try simp at t1);simp[vMayDo,t0,t1]
   go_wp2_with (go_at_call 72;refine(vIsObject_any _ _).mono ?_;rintro e w' ⟨rfl,rfl⟩;try (first | rw[t0] | rw[t1]))
   go_ret
   exact⟨by rw[HV];rfl,bq⟩
theorem mayDo12_any (n:Int) (a b:Nat) (k:List Int) (w:World) (ha:a<8) (hb:b<8) :
  Calls Tryz.prog 47 #[insV 12 a b n,regV k] w fun e w'=>e=.returned (.bool (vMayDo 12 a b k))/\Below w.heap.size w w':=by
 obtain⟨r,hr⟩:∃ r,r=vMayDo 12 a b k:=⟨_,rfl⟩;have HR:Aside (r=vMayDo 12 a b k):=hr;rw[<- hr];clear hr;have haz:(a:Int)<8:=by omega
 have hbz:(b:Int)<8:=by omega
 go_enter Tryz.func47,Tryz.ntmps47
 go_upto_region 1 with fail
 obtain⟨N0,N1,b1,hs⟩:=vBoxes2 w (Obj.cells #[.int .i64 12,.int .i64 a,.int .i64 b,.int .i64 n] 43) (Obj.cells (regA k) 99);generalize (w.alloc (Obj.cells #[.int .i64 12,.int .i64 a,.int .i64 b,.int .i64 n] 43)).alloc (Obj.cells (regA k) 99)=W at *;have i0:=vCell_blk N0 0;have i1:=vCell_blk N0 1;have i2:=vCell_blk N0 2;simp at i0 i1 i2;have ra:=reg_at N1 ha;have rb:=reg_at N1 hb;have r0:W.cell? ⟨w.heap.size+1,0,none⟩=some (.int .i64 (vAt k 0)):=reg_at N1 (a:=0) (by omega)
 clear N0 N1
 go_quiet (fail)
 have bq:=below_drewN b1 nq;have kq:=Keeps.drewN W nq;replace i0:=kq _ _ i0;replace r0:=kq _ _ r0;clear i1 i2 ra rb b1 kq;generalize W.drewN nq=wq at *
 cases t0:(vAt k b != 0) with
 | false =>
  have HV:r=false:=by rw[HR.out];(try simp at t0);simp[vMayDo,t0]
  go_wp2
  go_ret
  exact⟨by rw[HV];rfl,bq⟩
 | true =>
  have HV:r=true:=by rw[HR.out];(try simp at t0);simp[vMayDo,t0]
  go_wp2
  go_ret
  exact⟨by rw[HV];rfl,bq⟩
theorem mayDo13_any (n:Int) (a b:Nat) (k:List Int) (w:World) (ha:a<8) (hb:b<8) :
  Calls Tryz.prog 47 #[insV 13 a b n,regV k] w fun e w'=>e=.returned (.bool (vMayDo 13 a b k))/\Below w.heap.size w w':=by
 obtain⟨r,hr⟩:∃ r,r=vMayDo 13 a b k:=⟨_,rfl⟩;have HR:Aside (r=vMayDo 13 a b k):=hr;rw[<- hr];clear hr;have haz:(a:Int)<8:=by omega
 have hbz:(b:Int)<8:=by omega
 go_enter Tryz.func47,Tryz.ntmps47
 go_upto_region 1 with fail
 obtain⟨N0,N1,b1,hs⟩:=vBoxes2 w (Obj.cells #[.int .i64 13,.int .i64 a,.int .i64 b,.int .i64 n] 43) (Obj.cells (regA k) 99);generalize (w.alloc (Obj.cells #[.int .i64 13,.int .i64 a,.int .i64 b,.int .i64 n] 43)).alloc (Obj.cells (regA k) 99)=W at *;have i0:=vCell_blk N0 0;have i1:=vCell_blk N0 1;have i2:=vCell_blk N0 2;simp at i0 i1 i2;have ra:=reg_at N1 ha;have rb:=reg_at N1 hb;have r0:W.cell? ⟨w.heap.size+1,0,none⟩=some (.int .i64 (vAt k 0)):=reg_at N1 (a:=0) (by omega)
 clear N0 N1
 go_quiet (fail)
 have bq:=below_drewN b1 nq;have kq:=Keeps.drewN W nq;replace i0:=kq _ _ i0;replace r0:=kq _ _ r0;clear i1 i2 ra rb b1 kq;generalize W.drewN nq=wq at *
 cases t0:(vAt k a == 3) with
 | false =>
  have HV:r=false:=by rw[HR.out];(try simp at t0);simp[vMayDo,t0]
  go_wp2
  go_ret
  exact⟨by rw[HV];rfl,bq⟩
 | true =>
  cases t1:(vAt k b == 1) with
  | false =>
   have HV:r=false:=by rw[HR.out];(try simp at t1);simp[vMayDo,t1]
   go_wp2
   go_ret
   exact⟨by rw[HV];rfl,bq⟩
  | true =>
   have HV:r=true:=by rw[HR.out];(try simp at t0);(try simp at t1);simp[vMayDo,t0,t1]
   go_wp2
   go_ret
   exact⟨by rw[HV];rfl,bq⟩
theorem mayDo14_any (n:Int) (a b:Nat) (k:List Int) (w:World) (ha:a<8) (hb:b<8) :
  Calls Tryz.prog 47 #[insV 14 a b n,regV k] w fun e w'=>e=.returned (.bool (vMayDo 14 a b k))/\Below w.heap.size w w':=by
 obtain⟨r,hr⟩:∃ r,r=vMayDo 14 a b k:=⟨_,rfl⟩;have HR:Aside (r=vMayDo 14 a b k):=hr;rw[<- hr];clear hr;have haz:(a:Int)<8:=by omega
 have hbz:(b:Int)<8:=by omega
 go_enter Tryz.func47,Tryz.ntmps47
 go_upto_region 1 with fail
 obtain⟨N0,N1,b1,hs⟩:=vBoxes2 w (Obj.cells #[.int .i64 14,.int .i64 a,.int .i64 b,.int .i64 n] 43) (Obj.cells (regA k) 99);generalize (w.alloc (Obj.cells #[.int .i64 14,.int .i64 a,.int .i64 b,.int .i64 n] 43)).alloc (Obj.cells (regA k) 99)=W at *;have i0:=vCell_blk N0 0;have i1:=vCell_blk N0 1;have i2:=vCell_blk N0 2;simp at i0 i1 i2;have ra:=reg_at N1 ha;have rb:=reg_at N1 hb;have r0:W.cell? ⟨w.heap.size+1,0,none⟩=some (.int .i64 (vAt k 0)):=reg_at N1 (a:=0) (by omega)
 clear N0 N1
 go_quiet (fail)
 have bq:=below_drewN b1 nq;have kq:=Keeps.drewN W nq;replace i0:=kq _ _ i0;replace r0:=kq _ _ r0;clear i1 i2 ra rb b1 kq;generalize W.drewN nq=wq at *
 cases t0:vObj (vAt k a) with
 | false =>
  have HV:r=false:=by rw[HR.out];(try simp at t0);simp[vMayDo,t0]
  go_wp2_with (go_at_call 72;refine(vIsObject_any _ _).mono ?_;rintro e w' ⟨rfl,rfl⟩;try (first | rw[t0]))
  go_ret
  exact⟨by rw[HV];rfl,bq⟩
 | true =>
  cases t1:(vAt k b == 1) with
  | false =>
   have HV:r=false:=by rw[HR.out];(try simp at t1);simp[vMayDo,t1]
   go_wp2_with (go_at_call 72;refine(vIsObject_any _ _).mono ?_;rintro e w' ⟨rfl,rfl⟩;try (first | rw[t0]))
   go_ret
   exact⟨by rw[HV];rfl,bq⟩
  | true =>
   have HV:r=true:=by rw[HR.out];(try simp at t0);(try simp at t1);simp[vMayDo,t0,t1]
   go_wp2_with (go_at_call 72;refine(vIsObject_any _ _).mono ?_;rintro e w' ⟨rfl,rfl⟩;try (first | rw[t0]))
   go_ret
   exact⟨by rw[HV];rfl,bq⟩
theorem mayDo15_any (n:Int) (a b:Nat) (k:List Int) (w:World) (ha:a<8) (hb:b<8) :
  Calls Tryz.prog 47 #[insV 15 a b n,regV k] w fun e w'=>e=.returned (.bool (vMayDo 15 a b k))/\Below w.heap.size w w':=by
 obtain⟨r,hr⟩:∃ r,r=vMayDo 15 a b k:=⟨_,rfl⟩;have HR:Aside (r=vMayDo 15 a b k):=hr;rw[<- hr];clear hr;have haz:(a:Int)<8:=by omega
 have hbz:(b:Int)<8:=by omega
 go_enter Tryz.func47,Tryz.ntmps47
 go_upto_region 1 with fail
 obtain⟨N0,N1,b1,hs⟩:=vBoxes2 w (Obj.cells #[.int .i64 15,.int .i64 a,.int .i64 b,.int .i64 n] 43) (Obj.cells (regA k) 99);generalize (w.alloc (Obj.cells #[.int .i64 15,.int .i64 a,.int .i64 b,.int .i64 n] 43)).alloc (Obj.cells (regA k) 99)=W at *;have i0:=vCell_blk N0 0;have i1:=vCell_blk N0 1;have i2:=vCell_blk N0 2;simp at i0 i1 i2;have ra:=reg_at N1 ha;have rb:=reg_at N1 hb;have r0:W.cell? ⟨w.heap.size+1,0,none⟩=some (.int .i64 (vAt k 0)):=reg_at N1 (a:=0) (by omega)
 clear N0 N1
 go_quiet (fail)
 have bq:=below_drewN b1 nq;have kq:=Keeps.drewN W nq;replace i0:=kq _ _ i0;replace r0:=kq _ _ r0;clear i1 i2 ra rb b1 kq;generalize W.drewN nq=wq at *
 cases t0:(vAt k a == 1) with
 | false =>
  have HV:r=false:=by rw[HR.out];(try simp at t0);simp[vMayDo,t0]
  go_wp2
  go_ret
  exact⟨by rw[HV];rfl,bq⟩
 | true =>
  have HV:r=true:=by rw[HR.out];(try simp at t0);simp[vMayDo,t0]
  go_wp2
  go_ret
  exact⟨by rw[HV];rfl,bq⟩
theorem mayDo16_any (n:Int) (a b:Nat) (k:List Int) (w:World) (ha:a<8) (hb:b<8) :
  Calls Tryz.prog 47 #[insV 16 a b n,regV k] w fun e w'=>e=.returned (.bool (vMayDo 16 a b k))/\Below w.heap.size w w':=by
 obtain⟨r,hr⟩:∃ r,r=vMayDo 16 a b k:=⟨_,rfl⟩;have HR:Aside (r=vMayDo 16 a b k):=hr;rw[<- hr];clear hr;have haz:(a:Int)<8:=by omega
 have hbz:(b:Int)<8:=by omega
 go_enter Tryz.func47,Tryz.ntmps47
 go_upto_region 1 with fail
 obtain⟨N0,N1,b1,hs⟩:=vBoxes2 w (Obj.cells #[.int .i64 16,.int .i64 a,.int .i64 b,.int .i64 n] 43) (Obj.cells (regA k) 99);generalize (w.alloc (Obj.cells #[.int .i64 16,.int .i64 a,.int .i64 b,.int .i64 n] 43)).alloc (Obj.cells (regA k) 99)=W at *;have i0:=vCell_blk N0 0;have i1:=vCell_blk N0 1;have i2:=vCell_blk N0 2;simp at i0 i1 i2;have ra:=reg_at N1 ha;have rb:=reg_at N1 hb;have r0:W.cell? ⟨w.heap.size+1,0,none⟩=some (.int .i64 (vAt k 0)):=reg_at N1 (a:=0) (by omega)
 clear N0 N1
 go_quiet (fail)
 have bq:=below_drewN b1 nq;have kq:=Keeps.drewN W nq;replace i0:=kq _ _ i0;replace r0:=kq _ _ r0;clear i1 i2 ra rb b1 kq;generalize W.drewN nq=wq at *;have HV:r=true:=by rw[HR.out];simp[vMayDo]
 go_wp2
 go_ret
 exact⟨by rw[HV];rfl,bq⟩
theorem mayDo17_any (n:Int) (a b:Nat) (k:List Int) (w:World) (ha:a<8) (hb:b<8) :
  Calls Tryz.prog 47 #[insV 17 a b n,regV k] w fun e w'=>e=.returned (.bool (vMayDo 17 a b k))/\Below w.heap.size w w':=by
 obtain⟨r,hr⟩:∃ r,r=vMayDo 17 a b k:=⟨_,rfl⟩;have HR:Aside (r=vMayDo 17 a b k):=hr;rw[<- hr];clear hr;have haz:(a:Int)<8:=by omega
 have hbz:(b:Int)<8:=by omega
 go_enter Tryz.func47,Tryz.ntmps47
 go_upto_region 1 with fail
 obtain⟨N0,N1,b1,hs⟩:=vBoxes2 w (Obj.cells #[.int .i64 17,.int .i64 a,.int .i64 b,.int .i64 n] 43) (Obj.cells (regA k) 99);generalize (w.alloc (Obj.cells #[.int .i64 17,.int .i64 a,.int .i64 b,.int .i64 n] 43)).alloc (Obj.cells (regA k) 99)=W at *;have i0:=vCell_blk N0 0;have i1:=vCell_blk N0 1;have i2:=vCell_blk N0 2;simp at i0 i1 i2;have ra:=reg_at N1 ha;have rb:=reg_at N1 hb;have r0:W.cell? ⟨w.heap.size+1,0,none⟩=some (.int .i64 (vAt k 0)):=reg_at N1 (a:=0) (by omega)
 clear N0 N1
 go_quiet (fail)
 have bq:=below_drewN b1 nq;have kq:=Keeps.drewN W nq;replace i0:=kq _ _ i0;replace r0:=kq _ _ r0;clear i1 i2 ra rb b1 kq;generalize W.drewN nq=wq at *
 cases t0:(vAt k b == 3) with
 | false =>
  have HV:r=false:=by rw[HR.out];(try simp at t0);simp[vMayDo,t0]
  go_wp2
  go_ret
  exact⟨by rw[HV];rfl,bq⟩
 | true =>
  have HV:r=true:=by rw[HR.out];(try simp at t0);simp[vMayDo,t0]
  go_wp2
  go_ret
  exact⟨by rw[HV];rfl,bq⟩
theorem mayDo18_any (n:Int) (a b:Nat) (k:List Int) (w:World) (ha:a<8) (hb:b<8) :
  Calls Tryz.prog 47 #[insV 18 a b n,regV k] w fun e w'=>e=.returned (.bool (vMayDo 18 a b k))/\Below w.heap.size w w':=by
 obtain⟨r,hr⟩:∃ r,r=vMayDo 18 a b k:=⟨_,rfl⟩;have HR:Aside (r=vMayDo 18 a b k):=hr;rw[<- hr];clear hr;have haz:(a:Int)<8:=by omega
 have hbz:(b:Int)<8:=by omega
 go_enter Tryz.func47,Tryz.ntmps47
 go_upto_region 1 with fail
 obtain⟨N0,N1,b1,hs⟩:=vBoxes2 w (Obj.cells #[.int .i64 18,.int .i64 a,.int .i64 b,.int .i64 n] 43) (Obj.cells (regA k) 99);generalize (w.alloc (Obj.cells #[.int .i64 18,.int .i64 a,.int .i64 b,.int .i64 n] 43)).alloc (Obj.cells (regA k) 99)=W at *;have i0:=vCell_blk N0 0;have i1:=vCell_blk N0 1;have i2:=vCell_blk N0 2;simp at i0 i1 i2;have ra:=reg_at N1 ha;have rb:=reg_at N1 hb;have r0:W.cell? ⟨w.heap.size+1,0,none⟩=some (.int .i64 (vAt k 0)):=reg_at N1 (a:=0) (by omega)
 clear N0 N1
 go_quiet (fail)
 have bq:=below_drewN b1 nq;have kq:=Keeps.drewN W nq;replace i0:=kq _ _ i0;replace r0:=kq _ _ r0;clear i1 i2 ra rb b1 kq;generalize W.drewN nq=wq at *;have HV:r=true:=by rw[HR.out];simp[vMayDo]
 go_wp2
 go_ret
 exact⟨by rw[HV];rfl,bq⟩
theorem mayDo19_any (n:Int) (a b:Nat) (k:List Int) (w:World) (ha:a<8) (hb:b<8) :
  Calls Tryz.prog 47 #[insV 19 a b n,regV k] w fun e w'=>e=.returned (.bool (vMayDo 19 a b k))/\Below w.heap.size w w':=by
 obtain⟨r,hr⟩:∃ r,r=vMayDo 19 a b k:=⟨_,rfl⟩;have HR:Aside (r=vMayDo 19 a b k):=hr;rw[<- hr];clear hr;have haz:(a:Int)<8:=by omega
 have hbz:(b:Int)<8:=by omega
 go_enter Tryz.func47,Tryz.ntmps47
 go_upto_region 1 with fail
 obtain⟨N0,N1,b1,hs⟩:=vBoxes2 w (Obj.cells #[.int .i64 19,.int .i64 a,.int .i64 b,.int .i64 n] 43) (Obj.cells (regA k) 99);generalize (w.alloc (Obj.cells #[.int .i64 19,.int .i64 a,.int .i64 b,.int .i64 n] 43)).alloc (Obj.cells (regA k) 99)=W at *;have i0:=vCell_blk N0 0;have i1:=vCell_blk N0 1;have i2:=vCell_blk N0 2;simp at i0 i1 i2;have ra:=reg_at N1 ha;have rb:=reg_at N1 hb;have r0:W.cell? ⟨w.heap.size+1,0,none⟩=some (.int .i64 (vAt k 0)):=reg_at N1 (a:=0) (by omega)
 clear N0 N1
 go_quiet (fail)
 have bq:=below_drewN b1 nq;have kq:=Keeps.drewN W nq;replace i0:=kq _ _ i0;replace r0:=kq _ _ r0;clear i1 i2 ra rb b1 kq;generalize W.drewN nq=wq at *;have HV:r=true:=by rw[HR.out];simp[vMayDo]
 go_wp2
 go_ret
 exact⟨by rw[HV];rfl,bq⟩
theorem mayBeDone_any (op n:Int) (a b:Nat) (k:List Int) (w:World) (hop:0<=op/\op<=19) (ha:a<8) (hb:b<8) :
  Calls Tryz.prog 47 #[insV op a b n,regV k] w fun e w'=>e=.returned (.bool (vMayDo op a b k))/\Below w.heap.size w w':=by
 have h:op=0\/op=1\/op=2\/op=3\/op=4\/op=5\/op=6\/op=7\/op=8\/op=9\/op=10\/op=11\/op=12\/op=13\/op=14\/op=15\/op=16\/op=17\/op=18\/op=19:=by omega
 rcases h with rfl | rfl | rfl | rfl | rfl | rfl | rfl | rfl | rfl | rfl | rfl | rfl | rfl | rfl | rfl | rfl | rfl | rfl | rfl | rfl
 ·exact mayDo0_any n a b k w ha hb
 ·exact mayDo1_any n a b k w ha hb
 ·exact mayDo2_any n a b k w ha hb
 ·exact mayDo3_any n a b k w ha hb
 ·exact mayDo4_any n a b k w ha hb
 ·exact mayDo5_any n a b k w ha hb
 ·exact mayDo6_any n a b k w ha hb
 ·exact mayDo7_any n a b k w ha hb
 ·exact mayDo8_any n a b k w ha hb
 ·exact mayDo9_any n a b k w ha hb
 ·exact mayDo10_any n a b k w ha hb
 ·exact mayDo11_any n a b k w ha hb
 ·exact mayDo12_any n a b k w ha hb
 ·exact mayDo13_any n a b k w ha hb
 ·exact mayDo14_any n a b k w ha hb
 ·exact mayDo15_any n a b k w ha hb
 ·exact mayDo16_any n a b k w ha hb
 ·exact mayDo17_any n a b k w ha hb
 ·exact mayDo18_any n a b k w ha hb
 ·exact mayDo19_any n a b k w ha hb
end Go.Proofs.YtepifccbbmdfcaaGreatDoor
