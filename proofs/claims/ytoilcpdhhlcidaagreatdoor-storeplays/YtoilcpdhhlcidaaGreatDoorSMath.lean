/- Lemmas. -/
import Derived.KernelRfl
namespace Go.Proofs.YtoilcpdhhlcidaaGreatDoor
abbrev W:=BitVec 32
def ror (x:W) (n:Nat):W:=(x >>> n) ||| (x <<< (32 - n))
def sm0 (x:W):W:=(ror x 7 ^^^ ror x 18) ^^^ (x >>> 3)
def sm1 (x:W):W:=(ror x 17 ^^^ ror x 19) ^^^ (x >>> 10)
def bg0 (x:W):W:=(ror x 2 ^^^ ror x 13) ^^^ ror x 22
def bg1 (x:W):W:=(ror x 6 ^^^ ror x 11) ^^^ ror x 25
def chW (e f g:W):W:=(e &&& f) ^^^ (~~~e &&& g)
def majW (a b c:W):W:=((a &&& b) ^^^ (a &&& c)) ^^^ (b &&& c)
def Ks:List W:=[
 0x428a2f98,0x71374491,0xb5c0fbcf,0xe9b5dba5,0x3956c25b,0x59f111f1,0x923f82a4,0xab1c5ed5,
 0xd807aa98,0x12835b01,0x243185be,0x550c7dc3,0x72be5d74,0x80deb1fe,0x9bdc06a7,0xc19bf174,
 0xe49b69c1,0xefbe4786,0x0fc19dc6,0x240ca1cc,0x2de92c6f,0x4a7484aa,0x5cb0a9dc,0x76f988da,
 0x983e5152,0xa831c66d,0xb00327c8,0xbf597fc7,0xc6e00bf3,0xd5a79147,0x06ca6351,0x14292967,
 0x27b70a85,0x2e1b2138,0x4d2c6dfc,0x53380d13,0x650a7354,0x766a0abb,0x81c2c92e,0x92722c85,
 0xa2bfe8a1,0xa81a664b,0xc24b8b70,0xc76c51a3,0xd192e819,0xd6990624,0xf40e3585,0x106aa070,
 0x19a4c116,0x1e376c08,0x2748774c,0x34b0bcb5,0x391c0cb3,0x4ed8aa4a,0x5b9cca4f,0x682e6ff3,
 0x748f82ee,0x78a5636f,0x84c87814,0x8cc70208,0x90befffa,0xa4506ceb,0xbef9a3f7,0xc67178f2]
def Hs:List W:=[0x6a09e667,0xbb67ae85,0x3c6ef372,0xa54ff53a,0x510e527f,0x9b05688c,0x1f83d9ab,0x5be0cd19]
theorem znm:Ks.length=64:=rfl
def znn (a b c d:UInt8):W:=BitVec.ofNat 32 (a.toNat*16777216+b.toNat*65536+c.toNat*256+d.toNat)
def zk4 (l:List UInt8) (i:Nat):W:=znn (l.getD (4*i) 0) (l.getD (4*i+1) 0) (l.getD (4*i+2) 0) (l.getD (4*i+3) 0)
def w16 (l:List UInt8):List W:=(List.range 16).map (zk4 l)
theorem zcs (l:List UInt8):(w16 l).length=16:=by simp[w16]
def nxt (p:List W):W:=((sm1 (p.getD (p.length - 2) 0)+p.getD (p.length - 7) 0)+sm0 (p.getD (p.length - 15) 0))+p.getD (p.length - 16) 0
def zgs (l:List W):Nat→List W
 | 0=>l
 | n+1=>zgs l n++[nxt (zgs l n)]
theorem zfb (l:List W) (n:Nat):(zgs l n).length=l.length+n:=by
 induction n with
 | zero=>rfl
 | succ n ih=>simp[zgs,ih];omega
def zck (l:List UInt8):List W:=zgs (w16 l) 48
theorem zdw (l:List UInt8):(zck l).length=64:=by simp[zck,zfb,zcs]
structure S8 where
 a:W
 b:W
 c:W
 d:W
 e:W
 f:W
 g:W
 h:W
def S8.ofL (l:List W):S8:=⟨l.getD 0 0,l.getD 1 0,l.getD 2 0,l.getD 3 0,l.getD 4 0,l.getD 5 0,l.getD 6 0,l.getD 7 0⟩
def S8.toL (s:S8):List W:=[s.a,s.b,s.c,s.d,s.e,s.f,s.g,s.h]
theorem S8.toL_length (s:S8):s.toL.length=8:=rfl
def tT (s:S8) (k w:W):W:=(((s.h+bg1 s.e)+chW s.e s.f s.g)+k)+w
def uU (s:S8):W:=bg0 s.a+majW s.a s.b s.c
def rnd (s:S8) (k w:W):S8:=⟨tT s k w+uU s,s.a,s.b,s.c,s.d+tT s k w,s.e,s.f,s.g⟩
def rds (s:S8) (ws:List W):Nat→S8
 | 0=>s
 | n+1=>rnd (rds s ws n) (Ks.getD n 0) (ws.getD n 0)
def comp (hs:List W) (blk:List UInt8):List W:=List.zipWith (· + ·) hs (rds (S8.ofL hs) (zck blk) 64).toL
theorem zc4 {hs:List W} (h:hs.length=8) (blk:List UInt8):(comp hs blk).length=8:=by simp[comp,h,S8.toL_length]
def zhw:Nat→List UInt8→List W
 | 0,_=>Hs
 | k+1,l=>comp (zhw k l) ((l.drop (64*k)).take 64)
theorem zfc (k:Nat) (l:List UInt8):(zhw k l).length=8:=by
 induction k with
 | zero=>rfl
 | succ k ih=>exact zc4 ih _
theorem zfd (k:Nat) (l c:List UInt8) (h:64*k≤l.length):zhw k (l++c)=zhw k l:=by
 induction k with
 | zero=>rfl
 | succ k ih =>
   simp only[zhw]
   rw[ih (by omega),List.drop_append_of_le_length (by omega),List.take_append_of_le_length (by simp;omega)]
def be8 (n v:Nat):List UInt8:=(List.range n).map fun i=>UInt8.ofNat (v / 2 ^ (8*(n - 1 - i)))
theorem zbo (n v:Nat):(be8 n v).length=n:=by simp[be8]
theorem zrf (n v i:Nat) (h:i<(be8 n v).length):(be8 n v)[i]=UInt8.ofNat (v / 2 ^ (8*(n - 1 - i))):=by simp[be8]
def zcj (n:Nat):Nat:=(119 - n % 64) % 64
def zga (n:Nat):List UInt8:=(0x80::List.replicate (zcj n) 0)++be8 8 (n*8)
theorem zdk (n:Nat):(zga n).length=zcj n+9:=by simp[zga,zbo]
def padL (l:List UInt8):List UInt8:=l++zga l.length
theorem zgb (l:List UInt8):(padL l).length=l.length+zcj l.length+9:=by simp[padL,zdk];omega
theorem zps (l:List UInt8):(padL l).length % 64=0:=by
 rw[zgb];unfold zcj;omega
theorem zpt (l:List UInt8):64≤(padL l).length:=by
 have:=zps l
 have:=zgb l
 omega
def shaW (l:List UInt8):List W:=zhw ((padL l).length / 64) (padL l)
theorem zjt (l:List UInt8):(shaW l).length=8:=zfc _ _
def zbg (ws:List W):List UInt8:=ws.flatMap fun w=>be8 4 w.toNat
theorem zcl (ws:List W):(zbg ws).length=4*ws.length:=by
 induction ws with
 | nil=>rfl
 | cons w ws ih =>
   have e:zbg (w::ws)=be8 4 w.toNat++zbg ws:=rfl
   rw[e,List.length_append,zbo,ih,List.length_cons];omega
def shaL (l:List UInt8):List UInt8:=zbg (shaW l)
theorem zc5 (l:List UInt8):(shaL l).length=32:=by rw[shaL,zcl,zjt]
structure Took (words:List W) (rest:List UInt8) (l:List UInt8):Prop where
 w8:words.length=8
 r64:rest.length=64
 ws:64≤l.length→words=zhw (l.length / 64) l
 rs:rest.take (l.length % 64)=l.drop (64*(l.length / 64))
theorem Took.none:Took (List.replicate 8 0) (List.replicate 64 0) []:=⟨rfl,rfl,(fun h=>by simp at h),by simp⟩
def zfe (words:List W) (n:Nat):List W:=if n<64 then Hs else words
theorem Took.soFar {words:List W} {rest l:List UInt8} (h:Took words rest l):zfe words l.length=zhw (l.length / 64) l:=by
 unfold zfe
 split
 ·rw[Nat.div_eq_of_lt (by assumption)];rfl
 ·exact h.ws (by omega)
theorem Took.soFar_length {words:List W} {rest l:List UInt8} (h:Took words rest l):(zfe words l.length).length=8:=by rw[h.soFar,zfc]
def za3 (rest:List UInt8) (k:Nat) (c:List UInt8):List UInt8:=(rest.take k++c)++rest.drop (k+c.length)
theorem zbi (rest:List UInt8) (k:Nat) (c:List UInt8) (h:k+c.length≤rest.length):(za3 rest k c).length=rest.length:=by simp[za3];omega
theorem Took.full {words:List W} {rest l:List UInt8} (h:Took words rest l) (c:List UInt8) (hc:l.length % 64+c.length=64) :
  Took (comp (zfe words l.length) (za3 rest (l.length % 64) c)) (za3 rest (l.length % 64) c) (l++c):=by
 have hr:=h.r64
 have e1:(l++c).length / 64=l.length / 64+1:=by simp;omega
 have e2:(l++c).length % 64=0:=by simp;omega
 have e4:za3 rest (l.length % 64) c=l.drop (64*(l.length / 64))++c:=by
  rw[za3,h.rs,hc,List.drop_eq_nil_of_le (as:=rest) (by omega),List.append_nil]
 have e3:(l++c).drop (64*(l.length / 64))=za3 rest (l.length % 64) c:=by
  rw[e4,List.drop_append_of_le_length (by omega)]
 refine ⟨zc4 h.soFar_length _,?_,(fun _ => ?_),?_⟩
 ·rw[zbi _ _ _ (by omega),hr]
 ·rw[e1,h.soFar]
  simp only[zhw]
  rw[zfd _ _ _ (by omega),e3,List.take_of_length_le (by rw[zbi _ _ _ (by omega)];omega)]
 ·rw[e2,e1,List.take_zero,List.drop_eq_nil_of_le (by simp;omega)]
theorem Took.less {words:List W} {rest l:List UInt8} (h:Took words rest l) (c:List UInt8) (hc:l.length % 64+c.length<64) :
  Took words (za3 rest (l.length % 64) c) (l++c):=by
 have hr:=h.r64
 have e1:(l++c).length / 64=l.length / 64:=by simp;omega
 have e2:(l++c).length % 64=l.length % 64+c.length:=by simp;omega
 refine ⟨h.w8,?_,(fun h2 => ?_),?_⟩
 ·rw[zbi _ _ _ (by omega),hr]
 ·rw[e1,zfd _ _ _ (by omega)]
  exact h.ws (by simp at h2;omega)
 ·rw[e2,e1,List.drop_append_of_le_length (by omega),← h.rs,za3,List.take_append_of_le_length (by simp;omega),List.take_of_length_le (by simp;omega)]
theorem Took.ended {words:List W} {rest l:List UInt8} (h:Took words rest (padL l)):words=shaW l:=h.ws (zpt l)
end Go.Proofs.YtoilcpdhhlcidaaGreatDoor
