/- Lemmas. -/
import Derived.Test.YtegbbkgmiklhcaaGreatDoorSHash
import Derived.Test.YtegbbkgmiklhcaaGreatDoorMStr
namespace Go.Proofs.YtegbbkgmiklhcaaGreatDoor
open Go.RowKit
set_option maxRecDepth 100000
theorem zk1 (w:World) (x:W) (z:Int) (h0:0<z) (h1:z<32) :
  Calls Tryz.prog 107 #[.int .u32 (wz x),.int .u64 z] w fun e w'=>e = .returned (.int .u32 (wz (ror x z.toNat)))∧w'=w:=by
 obtain ⟨n,rfl⟩:∃ n:Nat,z=(n:Int):=⟨z.toNat,by omega⟩
 rw[Int.toNat_natCast]
 have hsb:IntKind.u64.wrap (32 - (n:Int))=((32 - n:Nat):Int):=by rw[IntKind.wrap_u64];omega
 have hn:n<32:=by omega
 go_enter Tryz.func107,Tryz.ntmps107
 go_wp2
 go_ret
 have e1:(32 - (n:Int)).toNat=32 - n:=by omega
 try rw[e1]
 rw[zsn,zm2,w_or,ror]
 exact ⟨rfl,rfl⟩
theorem zu6 (w:World) :
  Calls Tryz.prog 108 #[] w fun e w'=>e = .returned (.slice (some ⟨w.heap.size,0,none⟩) 64 64)∧Blk w' w.heap.size 140 (Ks.map wv)∧w.grownBy w' none:=by
 go_enter Tryz.func108,Tryz.ntmps108
 go_wp2
 go_ret
 exact ⟨rfl,Blk.new w 140 (Ks.map wv),zad (zaa _ _) _⟩
def lenT:Value→Nat
 | .string s=>s.size
 | _=>0
set_option maxHeartbeats 1000000 in
theorem znq (w:World) (l:List UInt8) (hl:l.length<1099511627776) :
  Calls Tryz.prog 74 #[.string (str l)] w fun e w'=>e = .returned (.string (str (padL l)))∧w.grownBy w' none:=by
 have hs0:=zaj l
 obtain ⟨n,hn⟩:∃ n,n=l.length:=⟨_,rfl⟩
 rw[← hn] at hs0 hl
 have hc1:str l++{ data := #[128] }=str (l++[128]):=zcf l [128]
 have HN:=hide hn
 clear hn
 go_enter Tryz.func74,Tryz.ntmps74
 go_wp2
 go_loopw [0] (fun s wr=>∃ k:Nat,k≤zbl n∧s = .string (str (l++[128]++List.replicate k 0))∧wr=w) (fun s _=>n+1+zbl n - lenT s)
 case atStart=>exact ⟨0,Nat.zero_le _,by simp,rfl⟩
 case round =>
  obtain ⟨k,hk,rfl,rfl⟩:=hrel
  obtain ⟨t,ht⟩:∃ t,t=l++[128]++List.replicate k 0:=⟨_,rfl⟩
  rw[← ht]
  have htl:(str t).size=n+1+k:=by rw[zaj,ht];simp[uh HN];omega
  have hz:zbl n<64:=by unfold zbl;omega
  have HT:=hide ht
  clear ht hc1 hs0
  by_cases hlt:k<zbl n
  ·have hmd:¬ ((n:Int)+1+(k:Int)) % 64=56:=by unfold zbl at hlt hk;omega
   have hc2:str t++{ data := #[0] }=str (t++[0]):=zcf t [0]
   go_wp2
   go_roundw
   case rel=>exact ⟨k+1,by omega,by rw[uh HT,List.replicate_succ',← List.append_assoc],trivial⟩
   case measure =>
    have h1:(str (t++[0])).size=n+1+k+1:=by rw[zaj,List.length_append,← zaj t,htl];rfl
    show n+1+zbl n - (str (t++[0])).size<n+1+zbl n - (str t).size
    rw[h1,htl];omega
  ·have hkz:k=zbl n:=by omega
   have hmd:((n:Int)+1+(k:Int)) % 64=56:=by rw[hkz];unfold zbl;omega
   go_wp2
   go_loopw [0,4] (fun s i wq=>∃ j:Nat,j≤8∧i = .int .i64 j∧s = .string (str (t++(be8 8 (n*8)).take j))∧wr.grownBy wq none) (fun _ i _=>8 - (intOf i).toNat)
   case atStart=>exact ⟨0,Nat.zero_le _,rfl,by simp,zaa _ _⟩
   case round =>
    obtain ⟨j,hj,rfl,rfl,hg⟩:=hrel
    obtain ⟨u,hu⟩:∃ u,u=t++(be8 8 (n*8)).take j:=⟨_,rfl⟩
    rw[← hu]
    have hul:(str u).size=n+1+k+j:=by
     rw[zaj,hu,List.length_append,← zaj t,htl,List.length_take,zbe];omega
    have HU:=hide hu
    clear hu
    by_cases hlt2:j<8
    ·have hq0:(0:Int)≤(j:Int):=by omega
     have hq1:(j:Int)<8:=by omega
     obtain ⟨e,he⟩:∃ e:Nat,e=8*(8 - 1 - j):=⟨_,rfl⟩
     have he2:(56:Int) - 8*(j:Int)=(e:Int):=by omega
     obtain ⟨y,hy⟩:∃ y:Nat,y=n*8 / 2 ^ e:=⟨_,rfl⟩
     have hy2:(n:Int)*8 / 2 ^ e=(y:Int):=by rw[hy];exact (Int.natCast_ediv _ _).symm ▸ (by simp)
     obtain ⟨HY,HE⟩:=zh2 hy he
     clear hy he
     have cv:(convert 24 9 (.slice (some ⟨wr.heap.size,0,none⟩) 1 1)).run Tryz.prog (wr.alloc (.cells #[.int .u8 ((y:Int) % 256)] 5)) = .ok (.string (str [UInt8.ofNat y])) (wr.alloc (.cells #[.int .u8 ((y:Int) % 256)] 5)):=zas (zjy wr y)
     have hs1:(str [UInt8.ofNat y]).size=1:=zaj [UInt8.ofNat y]
     have hc3:str u++str [UInt8.ofNat y]=str (u++[UInt8.ofNat y]):=zcf u _
     go_wp2
     go_roundw
     case rel =>
      refine ⟨j+1,by omega,by go_num,?_,zad hg _⟩
      have hb:j<(be8 8 (n*8)).length:=by rw[zbe];exact hlt2
      rw[zdj hb,zkh,← uh HE,← uh HY,← List.append_assoc,← uh HU]
     case measure=>simp[intOf];omega
    ·have hj8:j=8:=by omega
     have hfin:u=padL l:=by
      rw[uh HU,hj8,List.take_of_length_le (by rw[zbe];omega),uh HT,hkz,padL,zga,uh HN]
      simp
     have HFI:=hide hfin
     clear hfin hj8
     go_wp2
     go_ret
     exact ⟨by rw[uh HFI];rfl,hg⟩
end Go.Proofs.YtegbbkgmiklhcaaGreatDoor
