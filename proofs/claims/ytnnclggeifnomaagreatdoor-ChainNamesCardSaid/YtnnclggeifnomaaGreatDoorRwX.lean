import Derived.Test.YtnnclggeifnomaaGreatDoorPlain
set_option maxRecDepth 100000
set_option linter.all false
namespace Go.Proofs.YtnnclggeifnomaaGreatDoor
open Go.RowKit
def firstN(n:Nat):Nat:=2 ^ Nat.log2 (n-1)
theorem Zba(n:Nat):0<firstN n:=Nat.two_pow_pos _
theorem Zbm{n:Nat}(h:2≤n):firstN n<n:=by
 have:=Nat.log2_self_le (n:=n-1) (by omega)
 unfold firstN
 omega
def leafR(x:List UInt8):Dg:=⟨sha256 (tagB 7 [x]),S8.bytes_len _⟩
def forkR(a b:Dg):Dg:=⟨sha256 (tagB 8 [a.1,b.1]),S8.bytes_len _⟩
def noneR:Dg:=⟨sha256 [0],S8.bytes_len _⟩
def rootF:Nat→List (List UInt8)→Dg
 |0,_=>noneR
 |k+1,l=>match l with
  |[]=>noneR
  |[x]=>leafR x
  |l=>forkR (rootF k (l.take (firstN l.length))) (rootF k (l.drop (firstN l.length)))
def rootR(l:List (List UInt8)):Dg:=rootF (l.length+1) l
theorem Zk9{l:List (List UInt8)}(k:Nat)(h:2≤l.length):rootF (k+1) l=forkR (rootF k (l.take (firstN l.length))) (rootF k (l.drop (firstN l.length))):=by
 match l,h with
 |x::y::m,_=>rfl
theorem Zgw:∀(k j:Nat) (l:List (List UInt8)),l.length<k→l.length<j→rootF k l=rootF j l
 |0,_,_,h,_=>by omega
 |_+1,0,_,_,h=>by omega
 |k+1,j+1,[],_,_=>rfl
 |k+1,j+1,[x],_,_=>rfl
 |k+1,j+1,x::y::m,h1,h2=>by
  have hl:2≤(x::y::m).length:=by simp
  have f1:=Zba (x::y::m).length
  have f2:=Zbm hl
  rw[Zk9 k hl,Zk9 j hl]
  rw[Zgw k j ((x::y::m).take (firstN (x::y::m).length)) (by rw[List.length_take];omega) (by rw[List.length_take];omega),
   Zgw k j ((x::y::m).drop (firstN (x::y::m).length)) (by rw[List.length_drop];omega) (by rw[List.length_drop];omega)]
theorem Zen{l:List (List UInt8)}(h:2≤l.length):rootR l=forkR (rootR (l.take (firstN l.length))) (rootR (l.drop (firstN l.length))):=by
 have f1:=Zba l.length
 have f2:=Zbm h
 unfold rootR
 rw[Zk9 _ h,Zgw l.length ((l.take (firstN l.length)).length+1) (l.take (firstN l.length)) (by rw[List.length_take];omega) (by omega),
  Zgw l.length ((l.drop (firstN l.length)).length+1) (l.drop (firstN l.length)) (by rw[List.length_drop];omega) (by omega)]
def listR(l:List (List UInt8)):Bool:=decide (l.length≤256)&&l.all fun x=>decide (x.length≤4096)
theorem Rds.take{w:World}{A:Option Addr}{ls:List (List UInt8)}(h:Rds w A ls)(k:Nat):Rds w A (ls.take k):=fun hn=>by
 obtain⟨b,o,rfl,hc⟩:=h (by rw[List.length_take]at hn;omega)
 refine⟨b,o,rfl,fun j l hl=>hc j l ?_⟩
 rw[List.getElem?_take]at hl
 split at hl
 ·exact hl
 ·cases hl
theorem Rds.cutA{w:World}{A:Option Addr}{ls:List (List UInt8)}(h:Rds w A ls)(k c:Nat)(hk:k≤ls.length)(hc:ls.length≤c):Rds w (cutA A c k 1) (ls.drop k):=fun hn=>by
 rw[List.length_drop]at hn
 obtain⟨b,o,rfl,hh⟩:=h (by omega)
 refine⟨b,o+k * 1,?_,fun j l hl=>?_⟩
 ·unfold Go.Proofs.YtnnclggeifnomaaGreatDoor.cutA
  rw[if_neg (by omega),Option.map_some,Addr.add_lit]
 ·rw[List.getElem?_drop]at hl
  obtain⟨A',c',e,r⟩:=hh (k+j) l hl
  exact⟨A',c',by rw[show o+k * 1+j=o+(k+j) by omega];exact e,r⟩
end Go.Proofs.YtnnclggeifnomaaGreatDoor
