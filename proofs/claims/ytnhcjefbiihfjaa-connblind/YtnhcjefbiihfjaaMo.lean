/-
  A connection as plain data; what each of its functions does to it.
-/
import Derived.Test.YtnhcjefbiihfjaaOq
import Derived.Test.YtnhcjefbiihfjaaIq
import Derived.Test.YtnhcjefbiihfjaaRt
import Derived.Test.YtnhcjefbiihfjaaCw
import Derived.Test.YtnhcjefbiihfjaaSq
import Derived.Test.YtnhcjefbiihfjaaTc
namespace Go.Proofs.Ytnhcjefbiihfjaa
open Go.RowKit
open Tc (Sg gchk)
set_option linter.unusedVariables false
set_option linter.unusedSimpArgs false

structure Cn where
  la : Nat
  lp : Int
  ra : Nat
  rp : Int
  iss : Nat
  irs : Nat
  st : Int
  why : Int
  told : Int
  mss : Int
  o : Oq.St
  i : Option Iq.St
  wnd : Int
  wp : Int
  cw : Cw.Wn
  tm : Rt.Tm
  time : Int
  run : Bool
  beg : Int
  gone : Int
  wts : Int
  beh : Int
  snc : Int
  same : Int
  rst : List Nat
  again : Bool
  probe : Bool
  ack : Bool

namespace Cn
/-- The number as which a place goes. -/
def nm (s : Nat) (p : Int) : Nat := (((s : Int) + p) % 4294967296).toNat
def flight (c : Cn) : Int := c.o.c - c.o.u
def waits (c : Cn) : Bool := if c.st = 0 ∨ c.st = 9 then false else decide (0 < c.o.c - c.o.u) || (decide (c.wnd = 0) && (decide (0 < c.o.u) && decide (c.o.c < Oq.enI c.o)))
def look (c : Cn) : Cn := { c with beg := if waits c && !c.run then c.time else c.beg, run := waits c }
def done (c : Cn) (why : Int) : Cn := { c with st := 0, why := why }
def endOut (c : Cn) : Cn := { c with o := Oq.cl c.o, st := if c.st = 3 then 4 else if c.st = 6 then 8 else c.st }
def ask (c : Cn) (n : Nat) : Cn := { c with rst := c.rst ++ [n] }
def nxtI (c : Cn) : Int := match c.i with | none => 0 | some t => (Iq.nxt t : Int)
def wndI (c : Cn) : Int := match c.i with | none => 2048 | some t => Iq.wnd t
def rdyI (c : Cn) : Int := match c.i with | none => 0 | some t => (Iq.rdy t : Int)
def overI (c : Cn) : Bool := match c.i with | none => false | some t => Iq.over t
/-- The number as which the first place that lacks comes. -/
def next (c : Cn) : Nat := nm c.irs c.nxtI

def mssOf (g : Sg) : Int := if g.mss = 0 then 536 else max g.mss 8
def meet (c : Cn) (g : Sg) : Cn := { c with irs := g.sq, i := some Iq.st0, wnd := g.win, mss := min c.told (mssOf g), cw := Cw.wn0 (min c.told (mssOf g)) }
def wait (c : Cn) : Cn := { c with st := 9, wts := c.time + 20 }

/-- All places ahead of a have come. -/
def acked (c : Cn) (a : Int) : Cn :=
  { c with
    o := Oq.ak c.o a
    tm := if 0 < c.beh ∧ c.beh ≤ a then Rt.smp c.tm (c.time - c.snc) else c.tm
    beh := if 0 < c.beh ∧ c.beh ≤ a then 0 else c.beh
    snc := if 0 < c.beh ∧ c.beh ≤ a then 0 else c.snc
    cw := Cw.ack c.cw (Oq.akN c.o a)
    gone := 0
    beg := c.time
    same := 0 }
def answerSyn (c : Cn) (acks : Bool) : Cn :=
  if acks then { acked c 1 with st := 3, ack := true } else { c with st := 2, o := Oq.bk c.o }
def inSyn (c : Cn) (g : Sg) : Cn :=
  if g.ack = true ∧ (g.ak ≠ nm c.iss 1 ∨ c.o.s = 0) then (if g.rst then c else ask c g.ak)
  else if g.rst then (if g.ack then done c 11 else c)
  else if g.syn then answerSyn (meet c g) g.ack
  else c
def again9 (c : Cn) (g : Sg) : Cn := if c.st = 9 ∧ g.fin = true then wait c else c
def away (c : Cn) (g : Sg) : Cn := again9 (if g.rst then c else { c with ack := true }) g
def broken (c : Cn) : Cn := if c.st = 9 then done c 0 else done c 12
def onceMore (c : Cn) : Cn :=
  if c.same + 1 = 3 then { c with same := c.same + 1, cw := Cw.lost c.cw (flight c), again := true, beh := 0, snc := 0 } else { c with same := c.same + 1 }
def takeAck (c : Cn) (g : Sg) (a p : Int) : Cn :=
  let c' := if c.o.u < a then acked c a else if a = c.o.u ∧ Tc.lnw g = 0 ∧ 0 < flight c ∧ g.win = c.wnd then onceMore c else c
  if c.o.u < a ∨ (a = c.o.u ∧ c.wp ≤ p) then { c' with wnd := g.win, wp := p } else c'
def ripen (c : Cn) : Cn :=
  if c.o.sh = true ∧ c.o.u = Oq.enI c.o then
    (if c.st = 4 then { c with st := 5 } else if c.st = 7 then wait c else if c.st = 8 then done c 0 else c)
  else c
def heard (c : Cn) : Cn := if c.st = 3 then { c with st := 6 } else if c.st = 4 then { c with st := 7 } else if c.st = 5 then wait c else c
def putI (c : Cn) (g : Sg) (p : Int) : Cn := { c with i := c.i.map fun t => Iq.put t p g.body g.fin }
def takeBody (c : Cn) (g : Sg) (p : Int) : Cn :=
  let c' := if c.st = 3 ∨ c.st = 4 ∨ c.st = 5 then (if overI (putI c g p) then heard (putI c g p) else putI c g p) else again9 c g
  if 0 < Tc.lnw g then { c' with ack := true } else c'
/-- May it acknowledge that? And what becomes of the connection. -/
def mayAck (c : Cn) (n : Nat) (a : Int) : Bool × Cn :=
  if c.st = 2 ∧ (a < 1 ∨ c.o.s < a) then (false, ask c n)
  else if c.o.s < a then (false, { c with ack := true })
  else if c.st = 2 then (true, { c with st := if c.o.sh then 4 else 3 })
  else (true, c)
def ackAt (c : Cn) (g : Sg) : Int := Sq.near ((((g.ak : Int) - c.iss) % 4294967296)) c.o.u
def plcAt (c : Cn) (g : Sg) : Int := Sq.near ((((g.sq : Int) - c.irs) % 4294967296)) c.nxtI
def follow (c : Cn) (g : Sg) : Cn :=
  let m := mayAck c g.ak (ackAt c g)
  if m.1 then
    (let d := ripen (takeAck m.2 g (ackAt c g) (plcAt c g))
     if d.st = 0 then d else takeBody d g (plcAt c g))
  else m.2
def lets (c : Cn) (g : Sg) : Bool := Sq.acc g.sq (Tc.lnw g) (next c) (wndI c)
def inLater (c : Cn) (g : Sg) : Cn :=
  if lets c g = false then away c g
  else if g.rst = true ∧ g.sq = next c then broken c
  else if g.rst = true ∨ g.syn = true then { c with ack := true }
  else if g.ack then follow c g
  else c
/-- Of these two ends? -/
def ours (c : Cn) (g : Sg) : Bool := decide (g.sa = c.ra ∧ g.sp = c.rp ∧ g.da = c.la ∧ g.dp = c.lp)
def inE (c : Cn) (g : Sg) : Int := if gchk g ≠ 0 then gchk g else if ours c g = false then 6 else if c.st = 0 then 10 else 0
def inC (c : Cn) (g : Sg) : Cn := if inE c g ≠ 0 then c else look (if c.st = 1 then inSyn c g else inLater c g)

/-! What goes out. -/
def carry (c : Cn) (p : Oq.Pc) : Sg :=
  { sa := c.la, sp := c.lp, da := c.ra, dp := c.rp, sq := nm c.iss p.at', ak := if c.i.isSome then next c else 0, syn := p.syn, ack := c.i.isSome, fin := p.fin, rst := false, win := wndI c, mss := if p.syn then c.told else 0, body := p.body }
def rstSg (c : Cn) (n : Nat) : Sg := { sa := c.la, sp := c.lp, da := c.ra, dp := c.rp, sq := n, ak := 0, syn := false, ack := false, fin := false, rst := true, win := 0, mss := 0, body := ⟨#[]⟩ }
def limit (c : Cn) : Int := if c.o.u = 0 then 1 else c.o.u + (if c.probe then max (min c.wnd c.cw.size) 1 else min c.wnd c.cw.size)
def measure (c : Cn) : Cn := if c.beh = 0 then { c with beh := c.o.c, snc := c.time } else c
/-- One more piece goes out. -/
def piece (c : Cn) (lim : Int) : Cn :=
  let c' : Cn := { c with o := Oq.nx c.o lim c.mss }
  if (Oq.nxP c.o lim c.mss).at' = c.o.s then measure c' else c'
def more (c : Cn) (lim : Int) : Bool := Oq.nxG c.o lim c.mss
def pieces (lim : Int) : Nat → Cn → List Sg → List Sg × Cn
  | 0, c, l => (l, c)
  | k + 1, c, l => if more c lim then pieces lim k (piece c lim) (l ++ [carry (piece c lim) (Oq.nxP c.o lim c.mss)]) else (l, c)
/-- How many pieces there may be. -/
def left (c : Cn) : Nat := (Oq.enI c.o - c.o.c).toNat + 1
def firsts (c : Cn) : List Sg := if c.again && Oq.fiG c.o c.mss then [carry c (Oq.fiP c.o c.mss)] else []
def outs (c : Cn) : List Sg × Cn := pieces (limit c) (left c) { c with again := false } (firsts c)
def outP (c : Cn) : List Sg × Cn :=
  let r := outs c
  let c' : Cn := { r.2 with probe := false }
  (if r.1 = [] ∧ c'.ack = true then [carry c' ⟨c'.o.s, false, false, ⟨#[]⟩⟩] else r.1, { c' with ack := false })
def outL (c : Cn) : List Sg := c.rst.map (rstSg c) ++ (if c.st = 0 then [] else (outP { c with rst := [] }).1)
def outC (c : Cn) : Cn := look (if c.st = 0 then { c with rst := [] } else (outP { c with rst := [] }).2)

/-! The clock. -/
def goOff (c : Cn) : Cn :=
  if c.gone = 8 then done c 13
  else if 0 < flight c then { c with gone := c.gone + 1, tm := Rt.late c.tm, beg := c.time, cw := Cw.sil c.cw (flight c), o := Oq.bk c.o, beh := 0, snc := 0 }
  else { c with gone := c.gone + 1, tm := Rt.late c.tm, beg := c.time, probe := true }
def tickE (c : Cn) (n : Int) : Int := if n < 0 ∨ 1099511627776 - c.time < n then 1 else 0
def tick1 (c : Cn) : Cn := if c.st = 9 then (if c.wts ≤ c.time then done c 0 else c) else if c.run = true ∧ Rt.val c.tm ≤ c.time - c.beg then goOff c else c
def tickC (c : Cn) (n : Int) : Cn := if tickE c n ≠ 0 then c else look (tick1 { c with time := c.time + n })

/-! What the program asks. -/
def writeE (c : Cn) (x : ByteArray) : Int := if c.st = 0 then (if c.why = 0 then 17 else c.why) else if c.o.sh then 17 else if Oq.wN c.o x = 0 ∧ x.size ≠ 0 then 14 else 0
def writeN (c : Cn) (x : ByteArray) : Int := if c.st = 0 ∨ c.o.sh = true then 0 else (Oq.wN c.o x : Int)
def writeC (c : Cn) (x : ByteArray) : Cn := if writeE c x ≠ 0 then c else look { c with o := Oq.wr c.o x }
def readS (c : Cn) (m : Int) : ByteArray := match c.i with | none => ⟨#[]⟩ | some t => Iq.str t.c t.f (Iq.rk t m)
def readC (c : Cn) (m : Int) : Cn := { c with i := c.i.map fun t => Iq.rd t m }
def closeE (c : Cn) : Int := if c.st = 0 then 10 else if c.o.sh then 17 else 0
def closeC (c : Cn) : Cn := if closeE c ≠ 0 then c else look (if c.st = 1 then done c 0 else endOut c)
def abortE (c : Cn) : Int := if c.st = 0 then 10 else 0
def abortC (c : Cn) : Cn := if c.st = 0 then c else look (done (if c.st = 1 ∨ c.st = 9 then c else ask c (nm c.iss c.o.s)) 17)
def ready (c : Cn) : Int := (if 0 < rdyI c ∨ overI c = true ∨ c.st = 0 then 1 else 0) + (if (c.st = 3 ∨ c.st = 6) ∧ 0 < Oq.rmI c.o then 2 else 0) + (if c.why = 0 then 0 else 4)
def fresh (la : Nat) (lp : Int) (ra : Nat) (rp : Int) (iss : Nat) (mss : Int) : Cn :=
  { la := la, lp := lp, ra := ra, rp := rp, iss := iss, irs := 0, st := 1, why := 0, told := mss, mss := mss, o := Oq.st0, i := none, wnd := 0, wp := 0, cw := Cw.wn0 mss, tm := Rt.tm0, time := 0, run := false, beg := 0, gone := 0, wts := 0, beh := 0, snc := 0, same := 0, rst := [], again := false, probe := false, ack := false }
end Cn
end Go.Proofs.Ytnhcjefbiihfjaa
