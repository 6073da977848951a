package timer

import (
	"math"
	"math/big"
	"testing"

	"mimesis/api"
)

// The document's numbers, told anew.
const (
	soft     = 0x02000000
	markLow  = 0x02004000
	markHigh = 0x02004004
	timeLow  = 0x0200bff8
	timeHigh = 0x0200bffc
	greatest = math.MaxUint64
	halfOver = 1 << 32
)

var registers = []uint32{soft, markLow, markHigh, timeLow, timeHigh}

// edges are numbers of 64 bits at which halves, signs and the whole end, with halves that differ.
var edges = []uint64{
	0, 1, 2, 7, 1<<31 - 1, 1 << 31, 1<<32 - 2, 1<<32 - 1, 1 << 32, 1<<32 + 1, 1<<33 - 1,
	0x89abcdef_01234567, 0x01234567_89abcdef, 0x80000000_80000000, 0xffffffff_00000000, 0xfffffffe_ffffffff,
	1<<63 - 1, 1 << 63, 1<<63 + 1, greatest - 1<<31, greatest - 1, greatest,
}

// few are edges enough to be laid against each other by threes and fours.
var few = []uint64{0, 1, 1<<32 - 1, 1 << 32, 0x89abcdef_01234567, 1<<63 - 1, 1 << 63, greatest - 1, greatest}

var words = []uint32{0, 1, 2, 3, 0x7fffffff, 0x80000000, 0x80000001, 0x89abcdef, 0x01234567, 0xfffffffe, 0xffffffff}

// otherAddresses answers addresses that are no registers': neighbours of those that are, those
// that differ from them in one bit, of other devices, of memory, of the ends.
func otherAddresses() []uint32 {
	var l []uint32
	add := func(addr uint32) {
		for _, r := range registers {
			if addr == r {
				return
			}
		}
		l = append(l, addr)
	}
	for _, r := range registers {
		for d := range uint32(17) {
			add(r - d)
			add(r + d)
		}
		for bit := range 32 {
			add(r ^ 1<<bit)
		}
	}
	for _, addr := range []uint32{
		0, 1, 4, 0xfff8, 0x4000, 0xbff8, 0x00100000, 0x01ffffff, 0x0200ffff, 0x02010000, 0x10000000, 0x10000004,
		0x7fffffff, 0x80000000, 0x80004000, 0x8200bff8, 0xfffffffc, 0xffffffff,
	} {
		add(addr)
	}
	return l
}

func bigOf(n uint64) *big.Int {
	return new(big.Int).SetUint64(n)
}

// rest answers a number's rest by 2^64, of one below 0 too.
func rest(n *big.Int) uint64 {
	over := new(big.Int).Lsh(big.NewInt(1), 64)
	return new(big.Int).Mod(n, over).Uint64()
}

// timeAt is the time told anew: the sum, in numbers without bounds, by its rest.
func timeAt(t Timer, tick uint64) uint64 {
	return rest(new(big.Int).Add(bigOf(tick), bigOf(t.Offset)))
}

func upAt(t Timer, tick uint64) bool {
	return bigOf(timeAt(t, tick)).Cmp(bigOf(t.Mark)) >= 0
}

// halvesOf answers the lowest 32 bits and the upper ones, by quotient and rest.
func halvesOf(n uint64) (uint32, uint32) {
	return uint32(n % halfOver), uint32(n / halfOver)
}

func ofHalves(low, high uint32) uint64 {
	return uint64(high)*halfOver + uint64(low)
}

// readAt is what is read, told anew.
func readAt(t Timer, addr uint32, tick uint64) (uint32, api.Errno) {
	markLowest, markUpper := halvesOf(t.Mark)
	timeLowest, timeUpper := halvesOf(timeAt(t, tick))
	switch addr {
	case soft:
		if t.Soft {
			return 1, api.OK
		}
		return 0, api.OK
	case markLow:
		return markLowest, api.OK
	case markHigh:
		return markUpper, api.OK
	case timeLow:
		return timeLowest, api.OK
	case timeHigh:
		return timeUpper, api.OK
	}
	return 0, api.ErrFault
}

// withTime answers the timer whose time at a tick is this one, all else as it was.
func withTime(t Timer, time, tick uint64) Timer {
	t.Offset = rest(new(big.Int).Sub(bigOf(time), bigOf(tick)))
	return t
}

// written is what a timer is behind a word being written, told anew.
func written(t Timer, addr uint32, w uint32, tick uint64) (Timer, api.Errno) {
	markLowest, markUpper := halvesOf(t.Mark)
	timeLowest, timeUpper := halvesOf(timeAt(t, tick))
	switch addr {
	case soft:
		t.Soft = w%2 == 1
	case markLow:
		t.Mark = ofHalves(w, markUpper)
	case markHigh:
		t.Mark = ofHalves(markLowest, w)
	case timeLow:
		t = withTime(t, ofHalves(w, timeUpper), tick)
	case timeHigh:
		t = withTime(t, ofHalves(timeLowest, w), tick)
	default:
		return t, api.ErrFault
	}
	return t, api.OK
}

// leftAt is how many ticks there are till it is up, told anew.
func leftAt(t Timer, tick uint64) uint64 {
	if upAt(t, tick) {
		return 0
	}
	return new(big.Int).Sub(bigOf(t.Mark), bigOf(timeAt(t, tick))).Uint64()
}

// wantSeen holds all that can be seen of a timer at a tick, and that looking changes nothing, against the words.
func wantSeen(t *testing.T, x *Timer, tick uint64) {
	t.Helper()
	was := *x
	if got, want := x.Now(tick), timeAt(was, tick); got != want {
		t.Fatalf("Now of %+v at %#x: %#x, want %#x", was, tick, got, want)
	}
	if got, want := x.Up(tick), upAt(was, tick); got != want {
		t.Fatalf("Up of %+v at %#x: %v, want %v", was, tick, got, want)
	}
	if got, want := x.Left(tick), leftAt(was, tick); got != want {
		t.Fatalf("Left of %+v at %#x: %#x, want %#x", was, tick, got, want)
	}
	for _, addr := range registers {
		want, wantErr := readAt(was, addr, tick)
		if w, err := x.Read(addr, tick); w != want || err != wantErr {
			t.Fatalf("Read(%#x) of %+v at %#x: %#x %v, want %#x", addr, was, tick, w, err, want)
		}
	}
	if *x != was {
		t.Fatalf("looking at %+v made it %+v", was, *x)
	}
}

// wantWritten writes a word, and holds all three parts and what is read at that tick against the words.
func wantWritten(t *testing.T, x *Timer, addr uint32, w uint32, tick uint64) {
	t.Helper()
	was := *x
	want, _ := written(was, addr, w, tick)
	if err := x.Write(addr, w, tick); err != api.OK {
		t.Fatalf("Write(%#x, %#x) to %+v: %v", addr, w, was, err)
	}
	if *x != want {
		t.Fatalf("Write(%#x, %#x) to %+v at %#x: %+v, want %+v", addr, w, was, tick, *x, want)
	}
	wantBack := w
	if addr == soft {
		wantBack = w % 2
	}
	if got, err := x.Read(addr, tick); got != wantBack || err != api.OK {
		t.Fatalf("Read(%#x) at the tick %#x at which %#x was written: %#x %v", addr, tick, w, got, err)
	}
}

// wantSkipped skips, and holds what became of the timer against the words.
func wantSkipped(t *testing.T, x *Timer, tick uint64) {
	t.Helper()
	was, want := *x, *x
	if !upAt(was, tick) {
		want = withTime(was, was.Mark, tick)
	}
	x.Skip(tick)
	if *x != want {
		t.Fatalf("Skip of %+v at %#x: %+v, want %+v", was, tick, *x, want)
	}
	if !x.Up(tick) || x.Left(tick) != 0 {
		t.Fatalf("skipped %+v at %#x: up %v, left %#x", was, tick, x.Up(tick), x.Left(tick))
	}
}

// row answers numbers one behind the other that spread over all 64 bits; small ones and edges among them.
func row(seed uint64) func() uint64 {
	return func() uint64 {
		seed = seed*6364136223846793005 + 1442695040888963407
		n := seed ^ seed>>29
		switch n >> 32 % 4 {
		case 0:
			return edges[n%uint64(len(edges))]
		case 1:
			return n % 64
		case 2:
			return n << 32
		}
		return n
	}
}

// P13.1: the addresses.
func TestAddresses(t *testing.T) {
	if api.ClintSoft != soft || api.ClintCmp != markLow || api.ClintTime != timeLow {
		t.Fatalf("%#x %#x %#x", api.ClintSoft, api.ClintCmp, api.ClintTime)
	}
}

// P13.1: New(): the offset 0, the mark 2^64 - 1, Soft not set.
func TestNew(t *testing.T) {
	x := New()
	if x == nil {
		t.Fatal("none")
	}
	if want := (Timer{Offset: 0, Mark: greatest, Soft: false}); *x != want {
		t.Fatalf("%+v, want %+v", *x, want)
	}
	for _, tick := range edges {
		wantSeen(t, x, tick)
		if x.Now(tick) != tick || x.Up(tick) != (tick == greatest) || x.Left(tick) != greatest-tick {
			t.Fatalf("a new one at %#x: %#x %v %#x", tick, x.Now(tick), x.Up(tick), x.Left(tick))
		}
	}
}

// P13.1: New(): each is one of its own.
func TestNewIsItsOwn(t *testing.T) {
	x, y := New(), New()
	wantWritten(t, x, soft, 1, 3)
	wantWritten(t, x, markLow, 9, 3)
	wantWritten(t, x, timeHigh, 9, 3)
	if want := (Timer{Mark: greatest}); *y != want {
		t.Fatalf("%+v", *y)
	}
	if want := (Timer{Mark: greatest}); *New() != want {
		t.Fatalf("a later one: %+v", *New())
	}
}

// P13.1: Has(addr): the five addresses, and no other one.
func TestHas(t *testing.T) {
	for _, addr := range registers {
		if !Has(addr) {
			t.Errorf("Has(%#x): false", addr)
		}
	}
	for _, addr := range otherAddresses() {
		if Has(addr) {
			t.Errorf("Has(%#x): true", addr)
		}
	}
}

// P13.1: Has(addr): just five from the first register's page to the last one's, and none along all addresses by steps.
func TestHasOfRanges(t *testing.T) {
	n := 0
	for addr := uint32(0x01ff0000); addr < 0x02020000; addr++ {
		if Has(addr) {
			n++
		}
	}
	if n != 5 {
		t.Errorf("%d addresses, want 5", n)
	}
	for addr := uint32(0x02020000); addr >= 0x02020000; addr += 0x3fd {
		if Has(addr) {
			t.Fatalf("Has(%#x): true", addr)
		}
	}
}

// P13.1: Now(tick), Up(tick): sums below, at and above the mark, and such that pass 2^64.
func TestNowAndUp(t *testing.T) {
	for _, offset := range edges {
		for _, tick := range edges {
			time := timeAt(Timer{Offset: offset}, tick)
			for _, mark := range append([]uint64{time - 1, time, time + 1}, edges...) {
				for _, isSet := range []bool{false, true} {
					wantSeen(t, &Timer{Offset: offset, Mark: mark, Soft: isSet}, tick)
				}
			}
		}
	}
}

// P13.1: Now(tick), Up(tick), by numbers written out.
func TestNowAndUpByNumbers(t *testing.T) {
	cases := []struct {
		x    Timer
		tick uint64
		now  uint64
		up   bool
	}{
		{Timer{Offset: 0, Mark: 0}, 0, 0, true},
		{Timer{Offset: 0, Mark: 10}, 9, 9, false},
		{Timer{Offset: 0, Mark: 10}, 10, 10, true},
		{Timer{Offset: 0, Mark: 10}, 11, 11, true},
		{Timer{Offset: 4, Mark: 10}, 5, 9, false},
		{Timer{Offset: 4, Mark: 10}, 6, 10, true},
		{Timer{Offset: greatest, Mark: 10}, 10, 9, false},
		{Timer{Offset: greatest, Mark: 10}, 11, 10, true},
		{Timer{Offset: greatest, Mark: 1}, 1, 0, false},
		{Timer{Offset: greatest, Mark: greatest}, 0, greatest, true},
		{Timer{Offset: 1 << 63, Mark: 5}, 1 << 63, 0, false},
		{Timer{Offset: 1 << 63, Mark: 1<<63 - 1}, 0, 1 << 63, true},
		{Timer{Offset: 0, Mark: 1 << 63}, 1<<63 - 1, 1<<63 - 1, false},
		{Timer{Offset: 1 << 32, Mark: 1<<32 + 7}, 6, 1<<32 + 6, false},
		{Timer{Offset: 1 << 32, Mark: 1<<32 + 7}, 7, 1<<32 + 7, true},
		{Timer{Offset: 5, Mark: greatest, Soft: true}, greatest - 4, 0, false},
		{Timer{Offset: 5, Mark: 0, Soft: true}, greatest - 4, 0, true},
	}
	for _, k := range cases {
		x := k.x
		if now, up := x.Now(k.tick), x.Up(k.tick); now != k.now || up != k.up || x != k.x {
			t.Errorf("%+v at %#x: %#x %v %+v, want %#x %v", k.x, k.tick, now, up, x, k.now, k.up)
		}
	}
}

// P13.1: Read(addr, tick), by numbers written out: halves that differ, with upper bits set.
func TestReadByNumbers(t *testing.T) {
	x := Timer{Offset: 0x89abcdef_01234567, Mark: 0xfedcba98_76543210, Soft: true}
	cases := []struct {
		addr uint32
		tick uint64
		want uint32
	}{
		{soft, 0, 1}, {soft, greatest, 1},
		{markLow, 0, 0x76543210}, {markLow, greatest, 0x76543210},
		{markHigh, 0, 0xfedcba98}, {markHigh, 1 << 32, 0xfedcba98},
		{timeLow, 0, 0x01234567}, {timeLow, 1, 0x01234568}, {timeLow, 0xfedcba98, 0xffffffff}, {timeLow, 0xfedcba99, 0}, {timeLow, 1 << 32, 0x01234567},
		{timeHigh, 0, 0x89abcdef}, {timeHigh, 0xfedcba98, 0x89abcdef}, {timeHigh, 0xfedcba99, 0x89abcdf0}, {timeHigh, 1 << 32, 0x89abcdf0},
		{timeHigh, 0x76543210_fedcba98, 0xffffffff}, {timeHigh, 0x76543210_fedcba99, 0}, {timeLow, 0x76543210_fedcba99, 0},
	}
	for _, k := range cases {
		if w, err := x.Read(k.addr, k.tick); w != k.want || err != api.OK {
			t.Errorf("Read(%#x, %#x): %#x %v, want %#x", k.addr, k.tick, w, err, k.want)
		}
	}
	x.Soft = false
	if w, err := x.Read(soft, 0); w != 0 || err != api.OK {
		t.Errorf("Soft not set: %#x %v", w, err)
	}
}

// P13.1: Write to ClintSoft: bit 0 alone tells, whatever the others are; all else stays.
func TestWriteSoft(t *testing.T) {
	for _, w := range words {
		for _, wasSet := range []bool{false, true} {
			for _, n := range few {
				x := &Timer{Offset: n, Mark: n ^ 0x55, Soft: wasSet}
				wantWritten(t, x, soft, w, n)
				if x.Soft != (w%2 == 1) || x.Offset != n || x.Mark != n^0x55 {
					t.Fatalf("%#x was written: %+v", w, *x)
				}
				wantSeen(t, x, n)
			}
		}
	}
	for bit := range 32 {
		x := New()
		wantWritten(t, x, soft, 1<<bit, 0)
		if x.Soft != (bit == 0) {
			t.Errorf("bit %d sets it: %v", bit, x.Soft)
		}
		x.Soft = true
		wantWritten(t, x, soft, ^uint32(1<<bit), 0)
		if x.Soft != (bit != 0) {
			t.Errorf("all bits but %d set it: %v", bit, x.Soft)
		}
	}
}

// P13.1: Write to ClintCmp and 4 more: one half of the mark, the other half as it was.
func TestWriteMark(t *testing.T) {
	for _, mark := range edges {
		for _, w := range words {
			for _, tick := range few {
				for _, isSet := range []bool{false, true} {
					x := &Timer{Offset: tick ^ 0x1234, Mark: mark, Soft: isSet}
					wantWritten(t, x, markLow, w, tick)
					wantSeen(t, x, tick)
					x.Mark = mark
					wantWritten(t, x, markHigh, w, tick)
					wantSeen(t, x, tick)
				}
			}
		}
	}
	x := New()
	wantWritten(t, x, markLow, 0x76543210, 5)
	if x.Mark != 0xffffffff_76543210 {
		t.Errorf("the lowest bits: %#x", x.Mark)
	}
	wantWritten(t, x, markHigh, 0x89abcdef, 5)
	if x.Mark != 0x89abcdef_76543210 || x.Offset != 0 || x.Soft {
		t.Errorf("the upper ones: %+v", *x)
	}
}

// P13.1: Write to ClintTime and 4 more: one half of the time at this tick, the other half as it was.
func TestWriteTime(t *testing.T) {
	for _, offset := range edges {
		for _, tick := range edges {
			for _, w := range words {
				for _, isSet := range []bool{false, true} {
					was := Timer{Offset: offset, Mark: offset ^ tick ^ 0x55, Soft: isSet}
					low, high := halvesOf(timeAt(was, tick))
					x := was
					wantWritten(t, &x, timeLow, w, tick)
					if x.Now(tick) != ofHalves(w, high) {
						t.Fatalf("the lowest bits %#x were written to %+v at %#x: %#x", w, was, tick, x.Now(tick))
					}
					x = was
					wantWritten(t, &x, timeHigh, w, tick)
					if x.Now(tick) != ofHalves(low, w) {
						t.Fatalf("the upper bits %#x were written to %+v at %#x: %#x", w, was, tick, x.Now(tick))
					}
				}
			}
		}
	}
}

// P13.1: Write to ClintTime, by numbers written out: sums and differences that pass 2^64, and 2^32.
func TestWriteTimeByNumbers(t *testing.T) {
	cases := []struct {
		offset uint64
		addr   uint32
		w      uint32
		tick   uint64
		want   uint64
	}{
		{0, timeLow, 90, 40, 50},
		{0, timeLow, 10, 40, greatest - 29},
		{0, timeHigh, 1, 40, 1 << 32},
		{0, timeLow, 0, 1<<32 - 1, greatest - (1<<32 - 2)},
		{0, timeLow, 5, 1<<32 + 7, greatest - 1},
		{0, timeHigh, 0, 1<<32 + 7, greatest - (1<<32 - 1)},
		{greatest, timeLow, 0xffffffff, 1, 0xffffffff - 1},
		{greatest, timeHigh, 0xffffffff, 1, 0xffffffff_00000000 - 1},
		{greatest, timeLow, 3, 0, 0xffffffff_00000003},
		{1 << 63, timeHigh, 0, 1 << 63, 1 << 63},
		{1 << 63, timeLow, 1, 1 << 63, 1<<63 + 1},
		{0x89abcdef_01234567, timeHigh, 0, 0, 0x01234567},
		{0x89abcdef_01234567, timeLow, 0, 0, 0x89abcdef_00000000},
		{7, timeLow, 0x80000000, greatest, 0x80000000 + 1},
	}
	for _, k := range cases {
		x := &Timer{Offset: k.offset, Mark: 77, Soft: true}
		wantWritten(t, x, k.addr, k.w, k.tick)
		if want := (Timer{Offset: k.want, Mark: 77, Soft: true}); *x != want {
			t.Errorf("Write(%#x, %#x) at %#x of offset %#x: %+v, want %+v", k.addr, k.w, k.tick, k.offset, *x, want)
		}
	}
}

// P13.1: what is written goes on with the ticks; the halves one behind the other make the whole, in either order.
func TestWriteBothHalves(t *testing.T) {
	for _, n := range edges {
		low, high := halvesOf(n)
		for _, tick := range edges {
			x, y := New(), New()
			wantWritten(t, x, timeLow, low, tick)
			wantWritten(t, x, timeHigh, high, tick)
			wantWritten(t, y, timeHigh, high, tick)
			wantWritten(t, y, timeLow, low, tick)
			if x.Now(tick) != n || x.Now(tick+1) != n+1 || x.Now(tick-1) != n-1 || *x != *y {
				t.Fatalf("the time %#x at %#x: %+v %+v", n, tick, *x, *y)
			}
			wantWritten(t, x, markHigh, high, tick)
			wantWritten(t, x, markLow, low, tick)
			if x.Mark != n || !x.Up(tick) || x.Now(tick) != n {
				t.Fatalf("the mark %#x at %#x: %+v", n, tick, *x)
			}
		}
	}
}

// P13.1: Read and Write of other addresses: ErrFault, and nothing changes.
func TestOtherAddresses(t *testing.T) {
	for _, addr := range otherAddresses() {
		for _, n := range few {
			was := Timer{Offset: n, Mark: n ^ 0x89abcdef_01234567, Soft: n%2 == 0}
			x := was
			if w, err := x.Read(addr, n); w != 0 || err != api.ErrFault {
				t.Fatalf("Read(%#x): %#x %v", addr, w, err)
			}
			for _, w := range []uint32{0, 1, 0x89abcdee, 0xffffffff} {
				if err := x.Write(addr, w, n); err != api.ErrFault {
					t.Fatalf("Write(%#x, %#x): %v", addr, w, err)
				}
			}
			if x != was {
				t.Fatalf("%#x was written: %+v, was %+v", addr, x, was)
			}
		}
	}
}

// P13.2: Skip(tick): up, not up, next to the mark, far from it, sums and differences that pass 2^64.
func TestSkip(t *testing.T) {
	for _, offset := range edges {
		for _, tick := range edges {
			time := timeAt(Timer{Offset: offset}, tick)
			for _, mark := range append([]uint64{time - 1, time, time + 1, time + 2}, edges...) {
				for _, isSet := range []bool{false, true} {
					x := &Timer{Offset: offset, Mark: mark, Soft: isSet}
					wantSkipped(t, x, tick)
					was := *x
					wantSkipped(t, x, tick)
					if *x != was {
						t.Fatalf("skipped twice: %+v, was %+v", *x, was)
					}
				}
			}
		}
	}
}

// P13.2: Skip(tick), Left(tick), by numbers written out.
func TestSkipAndLeftByNumbers(t *testing.T) {
	cases := []struct {
		x    Timer
		tick uint64
		left uint64
		want uint64 // the offset behind Skip
	}{
		{Timer{Mark: 10}, 7, 3, 3},
		{Timer{Mark: 10}, 9, 1, 1},
		{Timer{Mark: 10}, 10, 0, 0},
		{Timer{Mark: 10}, 11, 0, 0},
		{Timer{Mark: 10, Offset: 5, Soft: true}, 4, 1, 6},
		{Timer{Mark: 10, Offset: 5, Soft: true}, 5, 0, 5},
		{Timer{Mark: 50}, 20, 30, 30},
		{Timer{Mark: 0}, 0, 0, 0},
		{Timer{Mark: greatest}, 0, greatest, greatest},
		{Timer{Mark: greatest}, greatest, 0, 0},
		{Timer{Mark: greatest}, greatest - 1, 1, 1},
		{Timer{Mark: 3, Offset: greatest}, 1, 3, 2},
		{Timer{Mark: 3, Offset: greatest}, 3, 1, 0},
		{Timer{Mark: 3, Offset: greatest}, 4, 0, greatest},
		{Timer{Mark: 5, Offset: 10}, greatest - 9, 5, 15},
		{Timer{Mark: 5, Offset: 10}, greatest - 4, 0, 10},
		{Timer{Mark: 1<<63 + 1, Offset: 1 << 62}, 1 << 62, 1, 1<<62 + 1},
	}
	for _, k := range cases {
		x := k.x
		if left := x.Left(k.tick); left != k.left || x != k.x {
			t.Errorf("Left of %+v at %#x: %#x %+v, want %#x", k.x, k.tick, left, x, k.left)
		}
		want := k.x
		want.Offset = k.want
		wantSkipped(t, &x, k.tick)
		if x != want {
			t.Errorf("Skip of %+v at %#x: %+v, want %+v", k.x, k.tick, x, want)
		}
	}
}

// P13.1, P13.2: a nil timer: 0, false, ErrFault; nothing happens; 2^64 - 1 is left.
func TestNil(t *testing.T) {
	var x *Timer
	for _, tick := range edges {
		if x.Now(tick) != 0 || x.Up(tick) || x.Left(tick) != greatest {
			t.Fatalf("at %#x: %#x %v %#x", tick, x.Now(tick), x.Up(tick), x.Left(tick))
		}
		x.Skip(tick)
		for _, addr := range append(otherAddresses(), registers...) {
			if w, err := x.Read(addr, tick); w != 0 || err != api.ErrFault {
				t.Fatalf("Read(%#x): %#x %v", addr, w, err)
			}
			if err := x.Write(addr, 1, tick); err != api.ErrFault {
				t.Fatalf("Write(%#x): %v", addr, err)
			}
		}
	}
	if x != nil {
		t.Fatalf("%+v", *x)
	}
}

// P13.3: it is up at the tick that Left tells, and at none between: each of them, where they are few.
func TestUpAtLeft(t *testing.T) {
	for _, offset := range few {
		for _, tick := range edges {
			for ahead := range uint64(70) {
				x := &Timer{Offset: offset}
				x.Mark = x.Now(tick) + ahead
				wantUpAtLeft(t, x, tick, 1)
			}
		}
	}
}

// P13.3: it is up at the tick that Left tells, and at none between: some of them, where they are many.
func TestUpAtLeftFar(t *testing.T) {
	for _, offset := range edges {
		for _, tick := range edges {
			for _, mark := range edges {
				x := &Timer{Offset: offset, Mark: mark, Soft: mark%2 == 0}
				wantUpAtLeft(t, x, tick, x.Left(tick)/50+1)
			}
		}
	}
}

// wantUpAtLeft holds that it is up at the tick that Left tells, and at none between, of which each step-th,
// the first one and the last one are looked at.
func wantUpAtLeft(t *testing.T, x *Timer, tick, step uint64) {
	t.Helper()
	was, left := *x, x.Left(tick)
	if !x.Up(tick + left) {
		t.Fatalf("%+v at %#x: %#x left, and it is not up then", was, tick, left)
	}
	for n := uint64(0); n < left; n += step {
		if x.Up(tick+n) || x.Left(tick+n) != left-n {
			t.Fatalf("%+v at %#x: %#x left; up behind %#x: %v, left %#x", was, tick, left, n, x.Up(tick+n), x.Left(tick+n))
		}
		if step > left-n {
			break
		}
	}
	if left > 0 && (x.Up(tick+left-1) || x.Left(tick+left-1) != 1) {
		t.Fatalf("%+v at %#x: %#x left, and it is up one ahead", was, tick, left)
	}
	if *x != was {
		t.Fatalf("%+v became %+v", was, *x)
	}
}

// P13.1 to P13.3: long rows of calls, with all that can be seen looked at behind each.
func TestRows(t *testing.T) {
	for seed := range uint64(60) {
		next := row(seed)
		x := New()
		tick := next()
		for range 300 {
			n := next()
			switch n % 8 {
			case 0:
				wantSkipped(t, x, tick)
			case 1:
				wantUpAtLeft(t, x, tick, x.Left(tick)/20+1)
			case 2:
				tick = next()
			case 3:
				if addr := uint32(n >> 8); !Has(addr) && x.Write(addr, uint32(next()), tick) != api.ErrFault {
					t.Fatalf("Write(%#x)", addr)
				}
			default:
				addr := registers[n>>8%uint64(len(registers))]
				wantWritten(t, x, addr, uint32(next()>>(n>>16%33)), tick)
			}
			wantSeen(t, x, tick)
			tick += n >> 60
			wantSeen(t, x, tick)
		}
	}
}

// The chapter's example.
func TestExample(t *testing.T) {
	x := New()
	x.Mark = 10
	if got := x.Left(7); got != 3 || x.Up(7) {
		t.Errorf("Left: %d, up %v", got, x.Up(7))
	}
	x.Skip(7)
	if !x.Up(7) || x.Now(7) != 10 {
		t.Errorf("skipped: %v, the time %d", x.Up(7), x.Now(7))
	}
}
