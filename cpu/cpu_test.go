package cpu

import (
	"bytes"
	"fmt"
	"math"
	"testing"

	"mimesis/api"
	"mimesis/bus"
	"mimesis/csr"
	"mimesis/image"
	"mimesis/timer"
)

// The document's numbers, told anew.
const (
	base     = 0x80000000
	pageSize = 64
	minRam   = 64
	maxRam   = 65536
	rowSize  = 16
	maxInput = 256
	port     = 0x00100000
	data     = 0x10000000
	status   = 0x10000004
	soft     = 0x02000000
	markLow  = 0x02004000
	markHigh = 0x02004004
	timeLow  = 0x0200bff8
	greatest = math.MaxUint64
)

// wrongRegisters are numbers of which there is no register; some of them are one in their lowest bits.
var wrongRegisters = []int{
	-1, -2, -31, -32, -33, 32, 33, 63, 64, 65, 255, 256, 257, 1 << 16, 1<<16 + 1, 1<<32 + 5, -1<<32 + 5,
	math.MaxInt32, math.MinInt32, math.MaxUint32, math.MinInt, math.MinInt + 1, math.MinInt + 31, math.MaxInt, math.MaxInt - 31,
}

var words = []uint32{
	0, 1, 2, 3, 4, 5, 0x7f, 0x80, 0xff, 0x100, 0x1800, 0x7ffffffe, 0x7fffffff, 0x80000000, 0x80000001, 0x80000003,
	0x80000007, 0x8000000b, 0x89abcdef, 0xfffffffc, 0xfffffffe, 0xffffffff,
}

var ticks = []uint64{
	0, 1, 2, 3, 99, 100, 101, 1<<31 - 1, 1 << 31, 1<<32 - 1, 1 << 32, 1<<32 + 1, 1<<63 - 1, 1 << 63, greatest - 1, greatest,
}

// made answers a machine, which there must be.
func made(t *testing.T, size int, l []image.Part, input []api.Arrival) *Cpu {
	t.Helper()
	c, err := New(size, l, input)
	if err != api.OK || c == nil {
		t.Fatalf("New(%d, %v, %v) = %v, %v", size, l, input, c, err)
	}
	return c
}

// stored stores a word by the machine's bus.
func stored(t *testing.T, c *Cpu, addr, w uint32) {
	t.Helper()
	if _, err := c.Bus().Store(addr, 4, w, c.Tick); err != api.OK {
		t.Fatalf("store at %x: %v", addr, err)
	}
}

// trapped tells anew the kept registers behind a trap, and where it goes on.
func trapped(k api.Csrs, pc, cause, tval uint32) (api.Csrs, uint32) {
	want := api.Csrs{Status: k.Status, Ie: k.Ie, Tvec: k.Tvec, Scratch: k.Scratch, Epc: pc, Cause: cause, Tval: tval}
	heard := k.Status / 8 % 2
	want.Status -= 8 * heard
	want.Status -= 128 * (k.Status / 128 % 2)
	want.Status += 128 * heard
	at := uint64(k.Tvec - k.Tvec%4)
	if k.Tvec%2 == 1 && cause >= 1<<31 {
		at += 4 * uint64(cause-1<<31)
	}
	return want, uint32(at % (1 << 32))
}

// wantSame holds two states against each other, part by part.
func wantSame(t *testing.T, got, want State) {
	t.Helper()
	if got.Pc != want.Pc || got.Regs != want.Regs || got.File != want.File {
		t.Fatalf("pc %x, registers %x, file %x; want %x, %x, %x", got.Pc, got.Regs, got.File, want.Pc, want.Regs, want.File)
	}
	if got.Tick != want.Tick || got.Retired != want.Retired {
		t.Fatalf("tick %d, retired %d; want %d, %d", got.Tick, got.Retired, want.Tick, want.Retired)
	}
	if !bytes.Equal(got.Ram, want.Ram) {
		t.Fatalf("memory %x, want %x", got.Ram, want.Ram)
	}
	if !bytes.Equal(got.Rx, want.Rx) || !bytes.Equal(got.Out, want.Out) || got.Over != want.Over || got.Came != want.Came {
		t.Fatalf("console %x %x %v %d; want %x %x %v %d", got.Rx, got.Out, got.Over, got.Came, want.Rx, want.Out, want.Over, want.Came)
	}
	if got.Timer != want.Timer || got.Off != want.Off || got.Code != want.Code {
		t.Fatalf("timer %v, off %v %x; want %v, %v %x", got.Timer, got.Off, got.Code, want.Timer, want.Off, want.Code)
	}
	wantEvents(t, got.Events, want.Events)
}

func wantEvents(t *testing.T, got, want []api.Event) {
	t.Helper()
	if len(got) != len(want) {
		t.Fatalf("%d events, want %d", len(got), len(want))
	}
	for i := range want {
		if got[i] != want[i] {
			t.Fatalf("event %d: %x, want %x", i, got[i], want[i])
		}
	}
}

// anew is the state of a machine that was just made.
func anew(size int) State {
	s := State{Pc: base, Ram: make([]byte, size)}
	s.File.Kept.Status = 0x1800
	s.Timer.Mark = greatest
	return s
}

// copied answers a state that shares no memory with s.
func copied(s State) State {
	s.Ram = append([]byte{}, s.Ram...)
	s.Rx = append([]byte{}, s.Rx...)
	s.Out = append([]byte{}, s.Out...)
	s.Events = append([]api.Event{}, s.Events...)
	return s
}

// P18.1: of each size there is a machine of that size, all else as it is at first, or ErrRange.
func TestNewOfSizes(t *testing.T) {
	sizes := []int{math.MinInt, math.MinInt32, -65536, -64, math.MaxInt32, math.MaxUint32, 1<<32 + 64, math.MaxInt - 63, math.MaxInt, 131072}
	for n := -300; n <= maxRam+300; n++ {
		sizes = append(sizes, n)
	}
	for _, n := range sizes {
		c, err := New(n, nil, nil)
		if n < minRam || n > maxRam || n%pageSize != 0 {
			if c != nil || err != api.ErrRange {
				t.Fatalf("New(%d) = %v, %v", n, c, err)
			}
			continue
		}
		if err != api.OK {
			t.Fatalf("New(%d): %v", n, err)
		}
		wantSame(t, c.State(), anew(n))
	}
}

// The faults that each part of what New is given may have.
var (
	wrongSizes = []int{0, 63, 65, 100, -64, maxRam + pageSize}

	wrongImages = []struct {
		l   []image.Part
		err api.Errno
	}{
		{[]image.Part{{At: base + 128, B: []byte{1}}}, api.ErrFault},
		{[]image.Part{{At: base + 127, B: []byte{1, 2}}}, api.ErrFault},
		{[]image.Part{{At: base - 1, B: []byte{1, 2}}}, api.ErrFault},
		{[]image.Part{{At: 0, B: []byte{1}}}, api.ErrFault},
		{[]image.Part{{At: 0xffffffff, B: []byte{1, 2}}}, api.ErrFault},
		{[]image.Part{{At: base, B: []byte{1}}, {At: data, B: []byte{2}}}, api.ErrFault},
		{[]image.Part{{At: base, B: make([]byte, maxRam+1)}}, api.ErrLong},
		{make([]image.Part, 1025), api.ErrLong},
		{append(make([]image.Part, 1024), image.Part{At: 0, B: []byte{1}}), api.ErrLong},
	}

	wrongInputs = []struct {
		l   []api.Arrival
		err api.Errno
	}{
		{[]api.Arrival{{Tick: 1}, {Tick: 0}}, api.ErrForm},
		{[]api.Arrival{{Tick: 5}, {Tick: 5}, {Tick: 9}, {Tick: 8}}, api.ErrForm},
		{[]api.Arrival{{Tick: greatest}, {Tick: 0}}, api.ErrForm},
		{make([]api.Arrival, maxInput+1), api.ErrLong},
		{append(make([]api.Arrival, maxInput+1), api.Arrival{Tick: 1}, api.Arrival{}), api.ErrLong},
	}
)

// P18.1: each fault alone is told, and of several ones the one that comes first.
func TestNewOfFaults(t *testing.T) {
	want := func(size int, l []image.Part, in []api.Arrival, err api.Errno) {
		t.Helper()
		if c, got := New(size, l, in); c != nil || got != err {
			t.Errorf("New(%d, %d parts, %d arrivals) = %v, %v; want %v", size, len(l), len(in), c, got, err)
		}
	}
	for _, i := range wrongImages {
		want(128, i.l, nil, i.err)
		for _, in := range wrongInputs {
			want(128, i.l, in.l, i.err)
			want(128, nil, in.l, in.err)
			for _, n := range wrongSizes {
				want(n, i.l, in.l, api.ErrRange)
				want(n, i.l, nil, api.ErrRange)
				want(n, nil, in.l, api.ErrRange)
				want(n, nil, nil, api.ErrRange)
			}
		}
	}
}

// P18.1: at the limits there is a machine.
func TestNewAtLimits(t *testing.T) {
	full := bytes.Repeat([]byte{0xa5}, maxRam)
	c := made(t, maxRam, []image.Part{{At: base, B: full}}, make([]api.Arrival, maxInput))
	want := anew(maxRam)
	want.Ram = full
	wantSame(t, c.State(), want)
	c.Bus().Console().Up(0)
	if s := c.State(); s.Came != maxInput || !s.Over || len(s.Rx) != rowSize {
		t.Errorf("came %d, over %v, %d wait", s.Came, s.Over, len(s.Rx))
	}
	made(t, minRam, make([]image.Part, 1024), nil)
	made(t, minRam, []image.Part{{At: base + 63, B: []byte{1}}, {At: 0}, {At: 0xffffffff}}, []api.Arrival{})
}

// P18.1: the memory has the image, a later part over earlier ones; no page is watched.
func TestNewHasImage(t *testing.T) {
	l := []image.Part{
		{At: base + 2, B: []byte{1, 2, 3, 4}},
		{At: base + 4, B: []byte{7, 8, 9}},
		{At: base + 62, B: []byte{10, 11, 12}},
		image.Words(base+124, []uint32{0x12345678}),
	}
	c := made(t, 128, l, nil)
	want := anew(128)
	copy(want.Ram[2:], []byte{1, 2, 7, 8, 9})
	copy(want.Ram[62:], []byte{10, 11, 12})
	copy(want.Ram[124:], []byte{0x78, 0x56, 0x34, 0x12})
	wantSame(t, c.State(), want)
	for p := range 2 {
		if m := c.Bus().Ram(); m.Watched(p) || m.Gen(p) != 0 {
			t.Errorf("page %d: %v, %d", p, m.Watched(p), m.Gen(p))
		}
	}
}

// P18.1: what New is given is neither changed nor kept.
func TestNewKeepsNothing(t *testing.T) {
	l := []image.Part{{At: base, B: []byte{1, 2, 3, 4}[:2]}}
	in := []api.Arrival{{Tick: 1, Byte: 'a'}, {Tick: 2, Byte: 'b'}, {Tick: 3, Byte: 'c'}}[:2]
	c := made(t, 64, l, in)
	if !bytes.Equal(l[0].B[:4], []byte{1, 2, 3, 4}) || l[0].At != base || in[:3][2] != (api.Arrival{Tick: 3, Byte: 'c'}) || in[1] != (api.Arrival{Tick: 2, Byte: 'b'}) {
		t.Errorf("changed: %v, %v", l, in)
	}
	l[0].B[0], l[0].At = 9, 0
	in[0], in[1] = api.Arrival{Tick: 7, Byte: 'x'}, api.Arrival{}
	c.Bus().Console().Up(2)
	stored(t, c, base, 0xffffffff)
	if s := c.State(); string(s.Rx) != "ab" || s.Came != 2 {
		t.Errorf("%q, %d came", s.Rx, s.Came)
	}
	if l[0].B[0] != 9 || l[0].B[1] != 2 || in[0].Byte != 'x' {
		t.Errorf("changed by the machine: %v, %v", l, in)
	}
}

// P18.1: two machines share nothing.
func TestMachinesApart(t *testing.T) {
	a, b := made(t, 64, nil, []api.Arrival{{Byte: 1}}), made(t, 64, nil, []api.Arrival{{Byte: 1}})
	if a.Bus() == b.Bus() {
		t.Fatal("one bus")
	}
	before := b.State()
	busy(t, a)
	wantSame(t, b.State(), before)
}

// P18.1: the bus is one and the same each time, and what is stored through it is seen.
func TestBus(t *testing.T) {
	c := made(t, 128, nil, []api.Arrival{{Tick: 2, Byte: 'a'}})
	b := c.Bus()
	if b == nil || b.Ram().Size() != 128 || b.Console() == nil || b.Timer() == nil {
		t.Fatalf("bus: %v", b)
	}
	want := anew(128)
	for i, addr := range []uint32{base, base + 64, base + 124} {
		stored(t, c, addr, 0x01020304)
		copy(want.Ram[addr-base:], []byte{4, 3, 2, 1})
		wantSame(t, c.State(), want)
		c.Retire(uint32(i))
		want.Pc, want.Tick, want.Retired = uint32(i), want.Tick+1, want.Retired+1
		if c.Bus() != b {
			t.Fatal("another bus")
		}
	}
	stored(t, c, soft, 1)
	stored(t, c, markLow, 5)
	stored(t, c, markHigh, 6)
	stored(t, c, timeLow, 10)
	want.Timer = timer.Timer{Soft: true, Mark: 6<<32 + 5, Offset: 7}
	wantSame(t, c.State(), want)
	stored(t, c, data, 0x141)
	want.Out = []byte{0x41}
	wantSame(t, c.State(), want)
	stored(t, c, port, 0xfedcba98)
	want.Off, want.Code = true, 0xfedcba98
	wantSame(t, c.State(), want)
	if c.Bus() != b {
		t.Error("another bus")
	}
}

// P18.1: the power is on at first, and a code of 0 powers off as any other.
func TestOff(t *testing.T) {
	for _, w := range words {
		c := made(t, 64, nil, nil)
		if code, off := c.Bus().Off(); code != 0 || off {
			t.Fatalf("off: %x, %v", code, off)
		}
		stored(t, c, port, w)
		want := anew(64)
		want.Off, want.Code = true, w
		wantSame(t, c.State(), want)
	}
}

// P18.1: what the file is asked in has the tick, how many retired, the time at the tick, and what calls at it.
func TestEnv(t *testing.T) {
	for _, tick := range ticks {
		for _, offset := range ticks {
			for _, mark := range ticks {
				c := made(t, 64, nil, []api.Arrival{{Byte: 'a'}})
				if got := c.Env(); got != (csr.Env{}) {
					t.Fatalf("at first %v", got)
				}
				c.Tick, c.Retired = tick, tick/3+offset
				c.Bus().Timer().Offset, c.Bus().Timer().Mark = offset, mark
				want := csr.Env{Tick: tick, Retired: tick/3 + offset, Time: tick + offset}
				if want.Time >= mark {
					want.Calls += 128
				}
				wantEnv(t, c, want)
				stored(t, c, soft, 1)
				want.Calls += 8
				wantEnv(t, c, want)
				c.Bus().Console().Up(0)
				want.Calls += 2048
				wantEnv(t, c, want)
				stored(t, c, soft, 0)
				want.Calls -= 8
				wantEnv(t, c, want)
			}
		}
	}
}

// wantEnv holds Env against what is wanted, and that asking for it changes nothing.
func wantEnv(t *testing.T, c *Cpu, want csr.Env) {
	t.Helper()
	before := c.State()
	if got := c.Env(); got != want {
		t.Fatalf("%v, want %v", got, want)
	}
	wantSame(t, c.State(), before)
}

// P18.1: Env follows the tick: a mark is come to at its tick, and bytes call as soon as the console is up to theirs.
func TestEnvTickByTick(t *testing.T) {
	c := made(t, 64, nil, []api.Arrival{{Tick: 4, Byte: 'a'}})
	stored(t, c, markLow, 7)
	stored(t, c, markHigh, 0)
	for n := range uint64(12) {
		want := csr.Env{Tick: n, Retired: n - n/3, Time: n}
		if n >= 7 {
			want.Calls = 128
		}
		wantEnv(t, c, want)
		if n%3 == 2 {
			c.Trap(api.CauseBreak, 0)
		} else {
			c.Retire(c.Pc + 4)
		}
	}
	c.Bus().Console().Up(c.Tick)
	wantEnv(t, c, csr.Env{Tick: 12, Retired: 8, Time: 12, Calls: 128 + 2048})
}

// P18.1: the state has what waits, what went out, whether a byte was lost, and how many came.
func TestStateOfConsole(t *testing.T) {
	var in []api.Arrival
	for i := range 20 {
		in = append(in, api.Arrival{Tick: uint64(2 * i), Byte: byte(100 + i)})
	}
	c := made(t, 64, nil, in)
	want := anew(64)
	for tick := range uint64(45) {
		c.Bus().Console().Up(tick)
		if tick%2 == 0 && tick < 40 {
			want.Came++
			if len(want.Rx) < rowSize {
				want.Rx = append(want.Rx, byte(100+tick/2))
			} else {
				want.Over = true
			}
		}
		wantSame(t, c.State(), want)
	}
	for range 18 {
		if _, err := c.Bus().Load(data, 4, 0); err != api.OK {
			t.Fatal(err)
		}
		if len(want.Rx) > 0 {
			want.Rx = want.Rx[1:]
		}
		wantSame(t, c.State(), want)
	}
	stored(t, c, status, 0)
	want.Over = false
	wantSame(t, c.State(), want)
	for i := range 300 {
		stored(t, c, data, uint32(i))
		want.Out = append(want.Out, byte(i))
	}
	wantSame(t, c.State(), want)
}

// P18.1: each part that can be set from outside is in the state as it is.
func TestStateOfParts(t *testing.T) {
	for _, w := range words {
		for _, tick := range ticks {
			c := made(t, 64, nil, nil)
			c.Pc, c.Tick, c.Retired = w, tick, ^tick
			c.File = csr.File{Kept: api.Csrs{Status: w, Ie: w + 1, Tvec: w + 2, Scratch: w + 3, Epc: w + 4, Cause: w + 5, Tval: w + 6}, Cycles: tick + 7, Instrs: tick + 8}
			want := anew(64)
			want.Pc, want.Tick, want.Retired, want.File = w, tick, ^tick, c.File
			for n := 1; n < 32; n++ {
				c.Regs[n] = w + uint32(n)
				want.Regs[n] = w + uint32(n)
			}
			wantSame(t, c.State(), want)
		}
	}
}

// busy lets a machine do something of everything; each of its parts is another one behind it.
func busy(t *testing.T, c *Cpu) {
	t.Helper()
	for n := range 32 {
		c.Set(n, c.Reg(n)+uint32(n)+1)
	}
	c.File.Kept.Tvec = base + 0x40
	c.File.Kept.Status = 0x1808
	c.File.Cycles++
	c.File.Instrs++
	c.Retire(c.Pc + 4)
	c.Bus().Console().Up(c.Tick)
	c.Send(byte(c.Tick))
	stored(t, c, data, uint32(c.Tick))
	c.Trap(api.CauseLoad, uint32(c.Tick))
	stored(t, c, base, uint32(c.Tick)*0x01010101)
	stored(t, c, base+60, uint32(c.Tick)*0x01010101)
	stored(t, c, timeLow, uint32(c.Tick)+77)
	stored(t, c, markLow, uint32(c.Tick))
	stored(t, c, soft, 1)
	c.Halt(uint32(c.Tick))
	stored(t, c, port, uint32(c.Tick))
}

// spoil changes all that lists of a state have, and what lies in the room behind their ends.
func spoil(s State) {
	for _, l := range [][]byte{s.Ram, s.Rx, s.Out} {
		l = l[:cap(l)]
		for i := range l {
			l[i] ^= 0xff
		}
	}
	l := s.Events[:cap(s.Events)]
	for i := range l {
		e := &l[i]
		e.Kind, e.Tick, e.Value, e.Cause, e.Epc, e.Tval = e.Kind+9, e.Tick+9, e.Value+9, e.Cause+9, e.Epc+9, e.Tval+9
		for n := range e.Regs {
			e.Regs[n] += 9
		}
		e.Csrs.Status, e.Csrs.Ie, e.Csrs.Tvec = e.Csrs.Status+9, e.Csrs.Ie+9, e.Csrs.Tvec+9
	}
}

// someInput are arrivals at many ticks, of which some are lost if none is read.
func someInput() []api.Arrival {
	var in []api.Arrival
	for i := range 40 {
		in = append(in, api.Arrival{Tick: uint64(i), Byte: byte(i + 1)})
	}
	return in
}

// P18.1: what a state gave can be changed, and changes no machine and no other state.
func TestStateIsNew(t *testing.T) {
	c := made(t, 128, []image.Part{{At: base, B: []byte{1, 2, 3}}}, someInput())
	for n := range 30 {
		first, second := c.State(), c.State()
		want := copied(first)
		wantSame(t, second, want)
		spoil(first)
		wantSame(t, second, want)
		wantSame(t, c.State(), want)
		// What was seen later stands where it would stand, had the state not been changed.
		busy(t, c)
		spoil(second)
		got := c.State()
		if len(got.Events) != 3*n+3 {
			t.Fatalf("%d events", len(got.Events))
		}
		wantEvents(t, got.Events[:3*n], want.Events)
	}
}

// P18.1: what the machine does later changes no state that was taken before.
func TestStateStays(t *testing.T) {
	c := made(t, 128, nil, someInput())
	var taken, wanted []State
	for range 30 {
		taken = append(taken, c.State())
		wanted = append(wanted, copied(taken[len(taken)-1]))
		busy(t, c)
		for i := range taken {
			wantSame(t, taken[i], wanted[i])
		}
	}
}

// P18.2: each register but 0 is as it was set, and the others are as they were.
func TestRegisters(t *testing.T) {
	c := made(t, 64, nil, nil)
	want := anew(64)
	for n := range 32 {
		if c.Reg(n) != 0 {
			t.Errorf("at first Reg(%d) = %x", n, c.Reg(n))
		}
	}
	for turn := range 3 {
		for n := range 32 {
			for _, w := range words {
				w += uint32(turn * n)
				c.Set(n, w)
				if n > 0 {
					want.Regs[n] = w
				}
				for m := range 32 {
					if c.Reg(m) != want.Regs[m] {
						t.Fatalf("after Set(%d, %x): Reg(%d) = %x, want %x", n, w, m, c.Reg(m), want.Regs[m])
					}
				}
				wantSame(t, c.State(), want)
			}
		}
	}
}

// P18.2: register 0 is always 0, also if one has put something into its place from outside.
func TestRegisterNought(t *testing.T) {
	c := made(t, 64, nil, nil)
	c.Regs[0] = 7
	if c.Reg(0) != 0 {
		t.Errorf("%x", c.Reg(0))
	}
}

// P18.2: of a register that there is not 0 is read, and nothing happens.
func TestNoRegister(t *testing.T) {
	c := made(t, 64, nil, nil)
	for n := 1; n < 32; n++ {
		c.Set(n, uint32(0x100+n))
	}
	want := c.State()
	l := append([]int{}, wrongRegisters...)
	for n := 32; n < 1000; n++ {
		l = append(l, n, -n)
	}
	for _, n := range l {
		c.Set(n, 0xffffffff)
		if c.Reg(n) != 0 {
			t.Errorf("Reg(%d) = %x", n, c.Reg(n))
		}
		wantSame(t, c.State(), want)
	}
}

// P18.2: an instruction retires: Pc is the next one's address, tick and retired are one more.
func TestRetire(t *testing.T) {
	for _, pc := range words {
		for _, next := range words {
			for _, tick := range ticks {
				c := made(t, 64, nil, nil)
				busy(t, c)
				c.Pc, c.Tick, c.Retired = pc, tick, ^tick
				want := c.State()
				c.Retire(next)
				want.Pc, want.Tick, want.Retired = next, tick+1, ^tick+1
				wantSame(t, c.State(), want)
			}
		}
	}
	c := made(t, 64, nil, nil)
	for n := range uint64(1000) {
		c.Retire(uint32(n))
		if c.Tick != n+1 || c.Retired != n+1 || c.Pc != uint32(n) {
			t.Fatalf("%d: %d %d %x", n, c.Tick, c.Retired, c.Pc)
		}
	}
}

// causes are those of package api, by the document's numbers, and others.
func causes() []uint32 {
	l := []uint32{0, 1, 2, 3, 4, 5, 6, 7, 11, 0x80000003, 0x80000007, 0x8000000b}
	return append(l, 8, 9, 12, 0x100, 0x7fffffff, 0x80000000, 0x80000001, 0xa0000000, 0xbfffffff, 0xfffffffe, 0xffffffff)
}

// P18.2: a trap is taken: what is seen of it, what the file has, where it goes on, the tick.
func TestTrap(t *testing.T) {
	for _, cause := range causes() {
		for _, tval := range []uint32{0, 1, 0x7fffffff, 0x80000000, 0xffffffff} {
			for low := range uint32(4) {
				for _, tvec := range []uint32{0, 0x80000100, 0xfffffffc} {
					for _, heard := range []uint32{0, 8, 0x80, 0x88, 0xffffffff} {
						checkTrap(t, heard, tvec+low, cause, tval)
					}
				}
			}
		}
	}
}

func checkTrap(t *testing.T, mstatus, tvec, cause, tval uint32) {
	t.Helper()
	c := made(t, 64, nil, nil)
	busy(t, c)
	c.File.Kept = api.Csrs{Status: mstatus, Ie: 0x888, Tvec: tvec, Scratch: 5, Epc: 6, Cause: 7, Tval: 8}
	c.Pc = tvec ^ 0x55555554
	want := c.State()
	c.Trap(cause, tval)
	k, at := trapped(want.File.Kept, want.Pc, cause, tval)
	want.Events = append(want.Events, api.Event{Kind: 2, Tick: want.Tick, Cause: cause, Epc: want.Pc, Tval: tval, Regs: want.Regs, Csrs: k})
	want.File.Kept = k
	want.Pc = at
	want.Tick++
	wantSame(t, c.State(), want)
}

// P18.2: what a trap shows are the registers as they are then, at ticks at their ends, too.
func TestTrapAtItsTick(t *testing.T) {
	c := made(t, 64, nil, nil)
	c.File.Kept.Tvec = base + 0x20
	var want []api.Event
	for i, tick := range ticks {
		c.Tick, c.Retired = tick, uint64(i)
		c.Pc = words[i]
		c.Set(i, 0xabc00000+uint32(i))
		k, at := trapped(c.File.Kept, c.Pc, uint32(i), words[i])
		want = append(want, api.Event{Kind: 2, Tick: tick, Cause: uint32(i), Epc: c.Pc, Tval: words[i], Regs: c.Regs, Csrs: k})
		c.Trap(uint32(i), words[i])
		if c.Tick != tick+1 || c.Retired != uint64(i) || c.Pc != at || c.File.Kept != k {
			t.Fatalf("tick %d, retired %d, pc %x, kept %x", c.Tick, c.Retired, c.Pc, c.File.Kept)
		}
		wantEvents(t, c.State().Events, want)
	}
}

// P18.2: each byte that goes out is seen, with its tick, and nothing else happens.
func TestSend(t *testing.T) {
	c := made(t, 64, nil, nil)
	want := anew(64)
	for b := range 256 {
		c.Send(byte(b))
		want.Events = append(want.Events, api.Event{Kind: 1, Tick: want.Tick, Value: uint32(b)})
		wantSame(t, c.State(), want)
		if b%3 == 0 {
			c.Retire(base)
			want.Tick, want.Retired = want.Tick+1, want.Retired+1
		}
	}
	c.Tick = greatest
	c.Set(4, 4)
	c.Send(200)
	want.Tick, want.Regs[4] = greatest, 4
	want.Events = append(want.Events, api.Event{Kind: 1, Tick: greatest, Value: 200})
	wantSame(t, c.State(), want)
}

// P18.2: that the power goes off is seen, with its tick and code, and nothing else happens.
func TestHalt(t *testing.T) {
	c := made(t, 64, nil, nil)
	want := anew(64)
	for i, w := range words {
		c.Tick = ticks[i%len(ticks)]
		c.Set(1, w)
		c.Halt(w)
		want.Tick, want.Regs[1] = c.Tick, w
		want.Events = append(want.Events, api.Event{Kind: 3, Tick: want.Tick, Value: w})
		wantSame(t, c.State(), want)
	}
}

// P18.1, P18.2, P18.3: of nil is answered, and happens, nothing.
func TestNil(t *testing.T) {
	var c *Cpu
	for _, n := range append([]int{0, 1, 31}, wrongRegisters...) {
		c.Set(n, 9)
		if c.Reg(n) != 0 {
			t.Errorf("Reg(%d) = %x", n, c.Reg(n))
		}
	}
	c.Retire(9)
	c.Trap(9, 9)
	c.Send(9)
	c.Halt(9)
	if c.Bus() != (*bus.Bus)(nil) || c.Env() != (csr.Env{}) {
		t.Errorf("%v, %v", c.Bus(), c.Env())
	}
	s := c.State()
	if s.Ram != nil || s.Rx != nil || s.Out != nil || s.Events != nil {
		t.Errorf("%v", s)
	}
	wantSame(t, s, State{})
	if !Same(s, State{}) || !SameEvents(nil, nil) {
		t.Error("not the same")
	}
}

// Rule 1: a machine that New did not make has no bus, and does what it can without one.
func TestWithoutBus(t *testing.T) {
	var c Cpu
	c.Set(1, 2)
	c.Retire(8)
	c.Trap(3, 4)
	c.Send(5)
	c.Halt(6)
	want := State{Tick: 2, Retired: 1}
	want.Regs[1] = 2
	want.File.Kept = api.Csrs{Epc: 8, Cause: 3, Tval: 4}
	want.Events = []api.Event{
		{Kind: 2, Tick: 1, Cause: 3, Epc: 8, Tval: 4, Regs: want.Regs, Csrs: want.File.Kept},
		{Kind: 1, Tick: 2, Value: 5}, {Kind: 3, Tick: 2, Value: 6},
	}
	wantSame(t, c.State(), want)
	if c.Bus() != nil || c.Env() != (csr.Env{Tick: 2, Retired: 1}) {
		t.Errorf("%v, %v", c.Bus(), c.Env())
	}
}

// full is a state each part of which has something.
func full() State {
	s := State{
		Pc: 1, Tick: 2, Retired: 3, Ram: []byte{4, 5, 6}, Rx: []byte{7, 8}, Out: []byte{9, 10, 11, 12}, Over: true, Came: 13,
		Timer: timer.Timer{Offset: 14, Mark: 15, Soft: true}, Off: true, Code: 16,
		File: csr.File{Kept: api.Csrs{Status: 17, Ie: 18, Tvec: 19, Scratch: 20, Epc: 21, Cause: 22, Tval: 23}, Cycles: 24, Instrs: 25},
	}
	for n := range s.Regs {
		s.Regs[n] = uint32(100 + n)
	}
	for i := range 3 {
		s.Events = append(s.Events, fullEvent(i))
	}
	return s
}

// fullEvent is an event each field of which has something.
func fullEvent(i int) api.Event {
	u := uint32(1000 * i)
	e := api.Event{
		Kind: 1 + i, Tick: 2 + uint64(u), Value: 3 + u, Cause: 4 + u, Epc: 5 + u, Tval: 6 + u,
		Csrs: api.Csrs{Status: 7 + u, Ie: 8 + u, Tvec: 9 + u, Scratch: 10 + u, Epc: 11 + u, Cause: 12 + u, Tval: 13 + u},
	}
	for n := range e.Regs {
		e.Regs[n] = u + uint32(100+n)
	}
	return e
}

// ofKept are changes of each single one of the kept registers.
func ofKept(k *api.Csrs) []func() {
	var l []func()
	for _, p := range []*uint32{&k.Status, &k.Ie, &k.Tvec, &k.Scratch, &k.Epc, &k.Cause, &k.Tval} {
		l = append(l, func() { *p++ }, func() { *p ^= 1 << 31 })
	}
	return l
}

// ofEvent are changes of each single field of an event.
func ofEvent(e *api.Event) []func() {
	l := []func(){
		func() { e.Kind++ }, func() { e.Kind = -e.Kind }, func() { e.Kind += 1 << 32 },
		func() { e.Tick++ }, func() { e.Tick += 1 << 32 }, func() { e.Tick += 1 << 63 },
	}
	for _, p := range []*uint32{&e.Value, &e.Cause, &e.Epc, &e.Tval} {
		l = append(l, func() { *p++ }, func() { *p ^= 1 << 31 })
	}
	for n := range e.Regs {
		l = append(l, func() { e.Regs[n]++ }, func() { e.Regs[n] ^= 1 << 31 })
	}
	return append(l, ofKept(&e.Csrs)...)
}

// ofState are changes of each single part of a state.
func ofState(s *State) []func() {
	l := []func(){
		func() { s.Pc++ }, func() { s.Pc ^= 1 << 31 },
		func() { s.Over = !s.Over }, func() { s.Off = !s.Off }, func() { s.Timer.Soft = !s.Timer.Soft },
		func() { s.Came++ }, func() { s.Came += 1 << 32 }, func() { s.Came = -s.Came },
		func() { s.Code++ }, func() { s.Code ^= 1 << 31 },
	}
	for _, p := range []*uint64{&s.Tick, &s.Retired, &s.File.Cycles, &s.File.Instrs, &s.Timer.Offset, &s.Timer.Mark} {
		l = append(l, func() { *p++ }, func() { *p += 1 << 32 }, func() { *p += 1 << 63 })
	}
	for n := range s.Regs {
		l = append(l, func() { s.Regs[n]++ }, func() { s.Regs[n] ^= 1 << 31 })
	}
	l = append(l, ofKept(&s.File.Kept)...)
	for _, p := range []*[]byte{&s.Ram, &s.Rx, &s.Out} {
		for i := range *p {
			l = append(l, func() { (*p)[i]++ }, func() { (*p)[i] ^= 0x80 })
		}
		l = append(l,
			func() { *p = append(*p, 0) }, func() { *p = (*p)[:len(*p)-1] }, func() { *p = (*p)[1:] }, func() { *p = nil },
		)
	}
	for i := range s.Events {
		l = append(l, ofEvent(&s.Events[i])...)
	}
	return append(l,
		func() { s.Events = append(s.Events, api.Event{}) }, func() { s.Events = s.Events[:2] },
		func() { s.Events = s.Events[1:] }, func() { s.Events = nil },
		func() { s.Events[0], s.Events[1] = s.Events[1], s.Events[0] },
	)
}

// P18.3: two states are the same, if nothing differs; and not, if any single part does.
func TestSame(t *testing.T) {
	a, b := full(), full()
	if !Same(a, b) || !Same(b, a) || !Same(a, a) {
		t.Fatal("not the same")
	}
	for i := range ofState(&b) {
		b = full()
		ofState(&b)[i]()
		if Same(a, b) || Same(b, a) {
			t.Errorf("change %d: the same", i)
		}
		if !Same(b, copied(b)) {
			t.Errorf("change %d: not the same as itself", i)
		}
		wantSame(t, a, full())
	}
}

// P18.3: of lists that have nothing it is the same whether they are nil.
func TestSameOfNothing(t *testing.T) {
	none := State{Ram: []byte{}, Rx: []byte{}, Out: []byte{}, Events: []api.Event{}}
	if !Same(none, State{}) || !Same(State{}, none) || !SameEvents(nil, []api.Event{}) || !SameEvents([]api.Event{}, nil) {
		t.Error("not the same")
	}
	if Same(none, full()) || Same(full(), none) {
		t.Error("the same")
	}
}

// P18.3: what lies in the room behind lists' ends counts for nothing, and nothing is changed.
func TestSameBehindEnds(t *testing.T) {
	a, b := full(), full()
	b.Ram = append(b.Ram, 99)[:3]
	b.Rx = append(b.Rx, 99)[:2]
	b.Out = append(b.Out, 99)[:4]
	b.Events = append(b.Events, fullEvent(5))[:3]
	if !Same(a, b) || !SameEvents(a.Events, b.Events) {
		t.Error("not the same")
	}
	wantSame(t, a, full())
	wantSame(t, b, full())
	if b.Ram[:4][3] != 99 || b.Rx[:3][2] != 99 || b.Out[:5][4] != 99 || b.Events[:4][3] != fullEvent(5) {
		t.Error("changed")
	}
}

// P18.3: lists of events are the same, if they have the same events in the same order.
func TestSameEvents(t *testing.T) {
	for n := range 6 {
		for m := range 6 {
			a, b := events(n), events(m)
			if SameEvents(a, b) != (n == m) {
				t.Errorf("%d and %d events: %v", n, m, SameEvents(a, b))
			}
			wantEvents(t, a, events(n))
			wantEvents(t, b, events(m))
		}
	}
	a := events(5)
	for at := range a {
		b := events(5)
		for i := range ofEvent(&b[at]) {
			b = events(5)
			ofEvent(&b[at])[i]()
			if SameEvents(a, b) || SameEvents(b, a) {
				t.Errorf("event %d, change %d: the same", at, i)
			}
		}
		for other := range a {
			b = events(5)
			b[at], b[other] = b[other], b[at]
			if SameEvents(a, b) != (at == other) {
				t.Errorf("%d and %d in each other's place", at, other)
			}
		}
	}
	if SameEvents(make([]api.Event, 1), nil) || SameEvents(make([]api.Event, 2), make([]api.Event, 3)) {
		t.Error("events of noughts are the same as none")
	}
}

func events(n int) []api.Event {
	var l []api.Event
	for i := range n {
		l = append(l, fullEvent(i))
	}
	return l
}

// P18.3: two machines that did the same have the same states; one that did more has not.
func TestSameOfMachines(t *testing.T) {
	a, b := made(t, 64, nil, someInput()), made(t, 64, nil, someInput())
	for range 25 {
		if !Same(a.State(), b.State()) {
			t.Fatal("not the same")
		}
		busy(t, a)
		if Same(a.State(), b.State()) {
			t.Fatal("the same")
		}
		busy(t, b)
	}
}

// row is a long row of numbers.
type row uint64

func (r *row) next() uint32 {
	*r = *r*6364136223846793005 + 1442695040888963407
	return uint32(*r >> 32)
}

// do lets a machine do one thing out of many, and tells the same of the state.
func (r *row) do(t *testing.T, c *Cpu, s *State) {
	t.Helper()
	a, b := r.next(), r.next()
	n := int(r.next()%36) - 2
	switch r.next() % 8 {
	case 0, 1:
		c.Set(n, a)
		if n > 0 && n < 32 {
			s.Regs[n] = a
		}
	case 2:
		c.Retire(a)
		s.Pc, s.Tick, s.Retired = a, s.Tick+1, s.Retired+1
	case 3:
		c.Send(byte(a))
		s.Events = append(s.Events, api.Event{Kind: 1, Tick: s.Tick, Value: a % 256})
	case 4:
		c.Halt(a)
		s.Events = append(s.Events, api.Event{Kind: 3, Tick: s.Tick, Value: a})
	case 5:
		at := a % 16 * 4
		stored(t, c, base+at, b)
		for i := range 4 {
			s.Ram[int(at)+i] = byte(b >> (8 * i))
		}
	case 6:
		k := api.Csrs{Status: a, Ie: b, Tvec: r.next(), Scratch: r.next(), Epc: r.next(), Cause: r.next(), Tval: r.next()}
		c.File.Kept, s.File.Kept = k, k
	case 7:
		if a%2 == 0 {
			a = causes()[a/2%uint32(len(causes()))]
		}
		r.trap(t, c, s, a, b)
	}
}

// P18.4: a trap changes nothing but Pc, the kept registers of control, the tick and the events.
func (r *row) trap(t *testing.T, c *Cpu, s *State, cause, tval uint32) {
	t.Helper()
	before := c.State()
	c.Trap(cause, tval)
	after := c.State()
	seen := len(before.Events)
	if len(after.Events) != seen+1 || after.Tick != before.Tick+1 {
		t.Fatalf("%d events, tick %d; before %d, %d", len(after.Events), after.Tick, seen, before.Tick)
	}
	wantEvents(t, after.Events[:seen], before.Events)
	k, at := trapped(s.File.Kept, s.Pc, cause, tval)
	s.Events = append(s.Events, api.Event{Kind: 2, Tick: s.Tick, Cause: cause, Epc: s.Pc, Tval: tval, Regs: s.Regs, Csrs: k})
	s.Pc, s.File.Kept, s.Tick = at, k, s.Tick+1
	after.Pc, after.Tick, after.File.Kept, after.Events = before.Pc, before.Tick, before.File.Kept, before.Events
	wantSame(t, after, before)
}

// P18.1 to P18.4: over long rows the machine is what is told of it, and its bus is the same.
func TestLongRows(t *testing.T) {
	for seed := range row(12) {
		t.Run(fmt.Sprint(seed), func(t *testing.T) {
			r := seed
			c := made(t, 64, nil, nil)
			s := anew(64)
			b := c.Bus()
			for range 400 {
				r.do(t, c, &s)
				wantSame(t, c.State(), s)
				if c.Bus() != b || c.Env() != (csr.Env{Tick: s.Tick, Retired: s.Retired, Time: s.Tick}) {
					t.Fatalf("bus %v, env %v", c.Bus(), c.Env())
				}
				for n := range 32 {
					if c.Reg(n) != s.Regs[n] {
						t.Fatalf("register %d: %x, want %x", n, c.Reg(n), s.Regs[n])
					}
				}
			}
		})
	}
}

// Example 1 of the chapter.
func TestExample(t *testing.T) {
	c := made(t, 64, nil, nil)
	w, err := c.File.Read(0x300, c.Env())
	if c.Pc != 0x80000000 || w != 0x1800 || err != api.OK {
		t.Errorf("%x, %x, %v", c.Pc, w, err)
	}
}
