package bus

import (
	"bytes"
	"math"
	"testing"

	"mimesis/api"
	"mimesis/console"
	"mimesis/ram"
	"mimesis/timer"
)

// The document's numbers, told anew.
const (
	base     = 0x80000000
	pageSize = 64
	port     = 0x00100000
	data     = 0x10000000
	status   = 0x10000004
	soft     = 0x02000000
	markLow  = 0x02004000
	markHigh = 0x02004004
	timeLow  = 0x0200bff8
	timeHigh = 0x0200bffc
	greatest = math.MaxUint64
)

var registers = []uint32{port, data, status, soft, markLow, markHigh, timeLow, timeHigh}

// wrongWidths are numbers that no width may be; some of them are one in their lowest bits.
var wrongWidths = []int{
	math.MinInt, math.MinInt + 1, math.MinInt + 4, math.MinInt32, -256, -252, -8, -4, -3, -2, -1, 0, 3, 5, 6, 7, 8, 9, 12, 16,
	32, 64, 128, 256, 257, 258, 260, 1<<16 + 4, math.MaxInt32, math.MaxUint32, 1<<32 + 1, 1<<32 + 2, 1<<32 + 4, math.MaxInt - 3, math.MaxInt,
}

var words = []uint32{0, 1, 2, 3, 0x7fffffff, 0x80000000, 0x89abcdef, 0xfffffffe, 0xffffffff}

// model is a bus told anew: bytes in a list, what comes and waits in lists that are cut in front, and the timer's three parts.
type model struct {
	bytes    []byte
	watched  []bool
	gens     []uint64
	coming   []api.Arrival
	row, out []byte
	over     bool
	came     int
	clock    timer.Timer
	off      bool
	code     uint32
}

func (o *model) inMemory(addr uint32, n int) bool {
	for i := range n {
		a := uint64(addr) + uint64(i)
		if a < base || a >= base+uint64(len(o.bytes)) {
			return false
		}
	}
	return true
}

func isRegister(addr uint32) bool {
	for _, r := range registers {
		if addr == r {
			return true
		}
	}
	return false
}

// error answers what an access must answer.
func (o *model) error(addr uint32, n int) api.Errno {
	if n != 1 && n != 2 && n != 4 {
		return api.ErrShape
	}
	if int64(addr)%int64(n) != 0 {
		return api.ErrOdd
	}
	if o.inMemory(addr, n) || n == 4 && isRegister(addr) {
		return api.OK
	}
	return api.ErrFault
}

func (o *model) class(addr uint32, n int) int {
	switch {
	case o.error(addr, n) != api.OK:
		return Nothing
	case o.inMemory(addr, n):
		return Memory
	}
	return Device
}

func (o *model) time(tick uint64) uint64 {
	return tick + o.clock.Offset
}

// load does what a load of something must do, and answers the word.
func (o *model) load(addr uint32, n int, tick uint64) uint32 {
	switch addr {
	case port:
		return 0
	case data:
		return o.take()
	case status:
		return o.status()
	case soft:
		if o.clock.Soft {
			return 1
		}
		return 0
	case markLow:
		return uint32(o.clock.Mark % (1 << 32))
	case markHigh:
		return uint32(o.clock.Mark / (1 << 32))
	case timeLow:
		return uint32(o.time(tick) % (1 << 32))
	case timeHigh:
		return uint32(o.time(tick) / (1 << 32))
	}
	var w uint32
	for i := n - 1; i >= 0; i-- {
		w = w*256 + uint32(o.bytes[int(addr-base)+i])
	}
	return w
}

func (o *model) take() uint32 {
	if len(o.row) == 0 {
		return 0
	}
	b := o.row[0]
	o.row = o.row[1:]
	return uint32(b)
}

func (o *model) status() uint32 {
	switch {
	case o.over && len(o.row) > 0:
		return 3
	case o.over:
		return 2
	case len(o.row) > 0:
		return 1
	}
	return 0
}

// withHalf answers n with one of its halves being w.
func withHalf(n uint64, w uint32, upper bool) uint64 {
	if upper {
		return uint64(w)<<32 + n%(1<<32)
	}
	return n>>32<<32 + uint64(w)
}

// store does what a store to something must do, and answers whether the memory is hit.
func (o *model) store(addr uint32, n int, w uint32, tick uint64) bool {
	switch addr {
	case port:
		o.off, o.code = true, w
	case data:
		o.out = append(append([]byte{}, o.out...), byte(w%256))
	case status:
		o.over = false
	case soft:
		o.clock.Soft = w%2 == 1
	case markLow, markHigh:
		o.clock.Mark = withHalf(o.clock.Mark, w, addr == markHigh)
	case timeLow, timeHigh:
		o.clock.Offset = withHalf(o.time(tick), w, addr == timeHigh) - tick
	default:
		return o.storeMemory(addr, n, w)
	}
	return false
}

func (o *model) storeMemory(addr uint32, n int, w uint32) bool {
	at := int(addr - base)
	for i := range n {
		o.bytes[at+i] = byte(w >> (8 * i))
	}
	page := at / pageSize
	hit := o.watched[page]
	if hit {
		o.watched[page] = false
		o.gens[page]++
	}
	return hit
}

func (o *model) up(tick uint64) {
	for len(o.coming) > 0 && o.coming[0].Tick <= tick {
		if len(o.row) < 16 {
			o.row = append(append([]byte{}, o.row...), o.coming[0].Byte)
		} else {
			o.over = true
		}
		o.coming = o.coming[1:]
		o.came++
	}
}

func (o *model) calls(tick uint64) uint32 {
	var w uint32
	if o.clock.Soft {
		w += 8
	}
	if o.time(tick) >= o.clock.Mark {
		w += 128
	}
	if len(o.row) > 0 {
		w += 2048
	}
	return w
}

// wantMemory holds the memory, as it is seen by its own functions, against the model.
func wantMemory(t *testing.T, m *ram.Ram, o *model) {
	t.Helper()
	if got := m.Bytes(); !bytes.Equal(got, o.bytes) {
		t.Fatalf("bytes: %x, want %x", got, o.bytes)
	}
	for p := range o.watched {
		if m.Watched(p) != o.watched[p] || m.Gen(p) != o.gens[p] {
			t.Fatalf("page %d: %v %d, want %v %d", p, m.Watched(p), m.Gen(p), o.watched[p], o.gens[p])
		}
	}
}

// wantConsole holds the console, as it is seen by its own functions, against the model.
func wantConsole(t *testing.T, c *console.Console, o *model) {
	t.Helper()
	if got := c.Waits(); !bytes.Equal(got, o.row) {
		t.Fatalf("what waits: %d, want %d", got, o.row)
	}
	if got := c.Out(); !bytes.Equal(got, o.out) {
		t.Fatalf("what went out: %d, want %d", got, o.out)
	}
	if c.Over() != o.over || c.Came() != o.came || c.Ready() != (len(o.row) > 0) {
		t.Fatalf("over %v, came %d, ready %v, want %v %d %d", c.Over(), c.Came(), c.Ready(), o.over, o.came, o.row)
	}
	next, is := c.Next()
	if is != (len(o.coming) > 0) || is && next != o.coming[0].Tick {
		t.Fatalf("next: %d %v, want %v", next, is, o.coming)
	}
}

// wantSeen holds all of a bus, without changing it, against the model.
func wantSeen(t *testing.T, b *Bus, o *model) {
	t.Helper()
	wantMemory(t, b.Ram(), o)
	wantConsole(t, b.Console(), o)
	if *b.Timer() != o.clock {
		t.Fatalf("timer: %+v, want %+v", *b.Timer(), o.clock)
	}
	if code, off := b.Off(); code != o.code || off != o.off {
		t.Fatalf("Off: %#x %v, want %#x %v", code, off, o.code, o.off)
	}
}

// wantLoad loads, and holds the answer against the model.
func wantLoad(t *testing.T, b *Bus, o *model, addr uint32, n int, tick uint64) {
	t.Helper()
	want, wantErr := uint32(0), o.error(addr, n)
	if wantErr == api.OK {
		want = o.load(addr, n, tick)
	}
	if w, err := b.Load(addr, n, tick); w != want || err != wantErr {
		t.Fatalf("Load(%#x, %d, %d): %#x %v, want %#x %v", addr, n, tick, w, err, want, wantErr)
	}
}

// wantStore stores, and holds the answer against the model.
func wantStore(t *testing.T, b *Bus, o *model, addr uint32, n int, w uint32, tick uint64) {
	t.Helper()
	want, wantErr := false, o.error(addr, n)
	if wantErr == api.OK {
		want = o.store(addr, n, w, tick)
	}
	if hit, err := b.Store(addr, n, w, tick); hit != want || err != wantErr {
		t.Fatalf("Store(%#x, %d, %#x, %d): %v %v, want %v %v", addr, n, w, tick, hit, err, want, wantErr)
	}
}

func upBoth(b *Bus, o *model, tick uint64) {
	b.Console().Up(tick)
	o.up(tick)
}

func watchBoth(t *testing.T, b *Bus, o *model, page int) {
	t.Helper()
	if err := b.Ram().Watch(page); err != api.OK {
		t.Fatalf("Watch(%d): %v", page, err)
	}
	o.watched[page] = true
}

// parts answers a memory of some bytes, a console with these arrivals, and a timer, all new.
func parts(t *testing.T, size int, l []api.Arrival) (*ram.Ram, *console.Console, *timer.Timer) {
	t.Helper()
	m, err := ram.New(size)
	if err != api.OK {
		t.Fatalf("a memory of %d: %v", size, err)
	}
	c, err := console.New(l)
	if err != api.OK {
		t.Fatalf("a console of %v: %v", l, err)
	}
	return m, c, timer.New()
}

// made answers a new bus of new parts, and its model.
func made(t *testing.T, size int, l []api.Arrival) (*Bus, *model) {
	t.Helper()
	b, err := New(parts(t, size, l))
	if b == nil || err != api.OK {
		t.Fatalf("New: %v %v", b, err)
	}
	o := &model{
		bytes:   make([]byte, size),
		watched: make([]bool, size/pageSize),
		gens:    make([]uint64, size/pageSize),
		coming:  append([]api.Arrival{}, l...),
		clock:   timer.Timer{Mark: greatest},
	}
	wantSeen(t, b, o)
	return b, o
}

// arrivals answers n of them, one a tick from 1 on.
func arrivals(n int) []api.Arrival {
	var l []api.Arrival
	for i := range n {
		l = append(l, api.Arrival{Tick: uint64(i + 1), Byte: byte(i*7 + 65)})
	}
	return l
}

// busy answers a bus of which nothing is as at first: bytes that differ, all pages watched, some hit ahead of that,
// a byte lost, sixteen that wait, two to come, some that went out, and all of the timer put.
// The power is on.
func busy(t *testing.T, size int) (*Bus, *model) {
	t.Helper()
	b, o := made(t, size, arrivals(19))
	for i := range size {
		o.bytes[i] = byte(i*11%253 + 2)
	}
	if err := b.Ram().Fill(base, o.bytes); err != api.OK {
		t.Fatal(err)
	}
	for p := range o.watched {
		for range p % 3 {
			watchBoth(t, b, o, p)
			wantStore(t, b, o, base+uint32(p*pageSize), 1, 0x77, 0)
		}
		watchBoth(t, b, o, p)
	}
	upBoth(b, o, 17)
	wantStore(t, b, o, data, 4, 0x141, 17)
	wantStore(t, b, o, data, 4, 0x42, 17)
	o.clock = timer.Timer{Offset: 0x89abcdef_01234567, Mark: 0xfedcba98_76543210, Soft: true}
	*b.Timer() = o.clock
	wantSeen(t, b, o)
	return b, o
}

// addresses are the memory's ends, the devices' registers and the ends of all addresses, with what is about them,
// some between, and those that differ in one bit from one that is there.
func addresses(size int) []uint32 {
	end := uint32(base + size)
	centres := append([]uint32{0, base, end, base + pageSize, 0xffffffff, 0x01000000, 0x02002000, 0x02008000, 0x0200c000, 0x08000000, 0x40000000, 0xc0000000}, registers...)
	var l []uint32
	for _, x := range centres {
		for d := range uint32(17) {
			l = append(l, x-d, x+d)
		}
	}
	for _, x := range append([]uint32{base, end - 4}, registers...) {
		for bit := range 32 {
			l = append(l, x^1<<bit)
		}
	}
	return l
}

// P14.1: New of three parts: the power is on, and the parts are the very ones, as they were.
func TestNew(t *testing.T) {
	for _, size := range []int{64, 128, 65536} {
		m, c, x := parts(t, size, arrivals(20))
		c.Up(18)
		x.Mark, x.Offset, x.Soft = 5, 6, true
		b, err := New(m, c, x)
		if b == nil || err != api.OK {
			t.Fatalf("New: %v %v", b, err)
		}
		if code, off := b.Off(); code != 0 || off {
			t.Errorf("Off of a new bus: %d %v", code, off)
		}
		if b.Ram() != m || b.Console() != c || b.Timer() != x {
			t.Errorf("other parts than those that were handed in")
		}
		if m.Size() != size || len(c.Waits()) != 16 || c.Came() != 18 || !c.Over() || *x != (timer.Timer{Offset: 6, Mark: 5, Soft: true}) {
			t.Errorf("the parts changed: %d, %v, %d, %+v", m.Size(), c.Waits(), c.Came(), *x)
		}
	}
}

// P14.1: New: ErrShape and no bus, if one of the parts, or more of them, is nil.
func TestNewWithoutParts(t *testing.T) {
	m, c, x := parts(t, 64, nil)
	for _, k := range []struct {
		m *ram.Ram
		c *console.Console
		t *timer.Timer
	}{
		{nil, c, x}, {m, nil, x}, {m, c, nil}, {nil, nil, x}, {nil, c, nil}, {m, nil, nil}, {nil, nil, nil},
	} {
		if b, err := New(k.m, k.c, k.t); b != nil || err != api.ErrShape {
			t.Errorf("New(%v, %v, %v): %v %v", k.m != nil, k.c != nil, k.t != nil, b, err)
		}
	}
}

// P14.1: Class, by numbers written out.
func TestClassByNumbers(t *testing.T) {
	b, _ := made(t, 128, nil)
	for _, k := range []struct {
		addr uint32
		n    int
		want int
	}{
		{0x80000000, 1, 1}, {0x80000000, 2, 1}, {0x80000000, 4, 1},
		{0x80000001, 1, 1}, {0x80000001, 2, 0}, {0x80000001, 4, 0},
		{0x80000002, 2, 1}, {0x80000002, 4, 0}, {0x80000003, 1, 1}, {0x80000003, 4, 0}, {0x80000004, 4, 1},
		{0x7fffffff, 1, 0}, {0x7fffffff, 2, 0}, {0x7ffffffe, 2, 0}, {0x7ffffffc, 4, 0}, {0x7ffffffe, 4, 0},
		{0x8000007f, 1, 1}, {0x8000007e, 2, 1}, {0x8000007c, 4, 1}, {0x8000007e, 4, 0}, {0x8000007f, 2, 0},
		{0x80000080, 1, 0}, {0x80000080, 2, 0}, {0x80000080, 4, 0}, {0x80000081, 1, 0}, {0x80000084, 4, 0},
		{0x00100000, 4, 2}, {0x00100000, 1, 0}, {0x00100000, 2, 0}, {0x00100004, 4, 0}, {0x000ffffc, 4, 0}, {0x00100001, 4, 0}, {0x00100002, 2, 0},
		{0x10000000, 4, 2}, {0x10000004, 4, 2}, {0x10000000, 1, 0}, {0x10000000, 2, 0}, {0x10000004, 1, 0}, {0x10000004, 2, 0},
		{0x10000002, 4, 0}, {0x10000001, 4, 0}, {0x10000005, 4, 0}, {0x10000006, 4, 0}, {0x10000008, 4, 0}, {0x0ffffffc, 4, 0}, {0x10000003, 1, 0},
		{0x02000000, 4, 2}, {0x02004000, 4, 2}, {0x02004004, 4, 2}, {0x0200bff8, 4, 2}, {0x0200bffc, 4, 2},
		{0x02000000, 1, 0}, {0x02004000, 2, 0}, {0x02004004, 1, 0}, {0x0200bff8, 2, 0}, {0x0200bffc, 1, 0},
		{0x02000004, 4, 0}, {0x01fffffc, 4, 0}, {0x02003ffc, 4, 0}, {0x02004008, 4, 0}, {0x0200bff4, 4, 0}, {0x0200c000, 4, 0}, {0x0200bffa, 4, 0},
		{0, 1, 0}, {0, 2, 0}, {0, 4, 0}, {0xffffffff, 1, 0}, {0xfffffffe, 2, 0}, {0xfffffffc, 4, 0}, {0xffffffff, 4, 0},
		{0x80000000, 0, 0}, {0x80000000, 3, 0}, {0x80000000, 5, 0}, {0x80000000, 8, 0}, {0x80000000, -1, 0}, {0x80000000, -4, 0}, {0x80000000, 64, 0}, {0x80000000, 128, 0}, {0x80000000, math.MaxInt, 0}, {0x80000000, math.MinInt, 0},
		{0x10000000, 0, 0}, {0x10000000, 3, 0}, {0x10000000, 5, 0}, {0x10000000, 8, 0}, {0x10000000, -4, 0}, {0x10000000, 1<<32 + 4, 0},
		{0x02004000, 8, 0}, {0x0200bff8, 8, 0}, {0x00100000, 8, 0}, {0x00100000, math.MaxInt, 0},
	} {
		if got := b.Class(k.addr, k.n); got != k.want {
			t.Errorf("Class(%#x, %d): %d, want %d", k.addr, k.n, got, k.want)
		}
	}
	if Nothing != 0 || Memory != 1 || Device != 2 {
		t.Errorf("%d %d %d", Nothing, Memory, Device)
	}
}

// P14.1: Class of each address and width, which changes nothing.
func TestClass(t *testing.T) {
	for _, size := range []int{64, 128, 192, 65536} {
		b, o := busy(t, size)
		for _, addr := range addresses(size) {
			for _, n := range append([]int{1, 2, 4}, wrongWidths...) {
				if got, want := b.Class(addr, n), o.class(addr, n); got != want {
					t.Fatalf("size %d: Class(%#x, %d): %d, want %d", size, addr, n, got, want)
				}
			}
		}
		wantSeen(t, b, o)
	}
}

// P14.1: Class of all the memory's addresses, and of each about the devices.
func TestClassOfRows(t *testing.T) {
	b, o := busy(t, 256)
	for _, from := range []uint32{base - 64, data - 512, port - 512, soft - 512, markLow - 512, timeLow - 512} {
		for d := range uint32(1024) {
			for n := range 10 {
				if got, want := b.Class(from+d, n), o.class(from+d, n); got != want {
					t.Fatalf("Class(%#x, %d): %d, want %d", from+d, n, got, want)
				}
			}
		}
	}
	wantSeen(t, b, o)
}

// P14.2: which error there is, by numbers written out: ErrShape ahead of ErrOdd, that ahead of ErrFault.
func TestErrorsInOrder(t *testing.T) {
	b, o := busy(t, 128)
	for _, k := range []struct {
		addr uint32
		n    int
		want api.Errno
	}{
		{base, 0, api.ErrShape}, {base, 3, api.ErrShape}, {base, 8, api.ErrShape}, {base + 1, 3, api.ErrShape}, {base + 1, 8, api.ErrShape},
		{base + 128, 5, api.ErrShape}, {0, 0, api.ErrShape}, {1, 3, api.ErrShape}, {1, -2, api.ErrShape}, {0xffffffff, math.MaxInt, api.ErrShape},
		{data, 3, api.ErrShape}, {data + 1, 8, api.ErrShape}, {port, 0, api.ErrShape}, {port + 2, 5, api.ErrShape}, {timeLow, 8, api.ErrShape}, {markLow, -4, api.ErrShape},
		{base + 1, 2, api.ErrOdd}, {base + 1, 4, api.ErrOdd}, {base + 2, 4, api.ErrOdd}, {base + 127, 2, api.ErrOdd}, {base + 126, 4, api.ErrOdd},
		{base + 129, 2, api.ErrOdd}, {base + 130, 4, api.ErrOdd}, {base - 1, 2, api.ErrOdd}, {base - 2, 4, api.ErrOdd},
		{1, 2, api.ErrOdd}, {2, 4, api.ErrOdd}, {0xffffffff, 2, api.ErrOdd}, {0xfffffffe, 4, api.ErrOdd},
		{data + 1, 2, api.ErrOdd}, {data + 1, 4, api.ErrOdd}, {data + 2, 4, api.ErrOdd}, {data + 6, 4, api.ErrOdd},
		{port + 1, 2, api.ErrOdd}, {port + 2, 4, api.ErrOdd}, {soft + 3, 4, api.ErrOdd}, {markLow + 2, 4, api.ErrOdd}, {timeHigh + 1, 2, api.ErrOdd},
		{base + 128, 1, api.ErrFault}, {base + 128, 2, api.ErrFault}, {base + 128, 4, api.ErrFault}, {base - 1, 1, api.ErrFault}, {base - 2, 2, api.ErrFault}, {base - 4, 4, api.ErrFault},
		{0, 1, api.ErrFault}, {0, 4, api.ErrFault}, {0xffffffff, 1, api.ErrFault}, {0xfffffffe, 2, api.ErrFault}, {0xfffffffc, 4, api.ErrFault},
		{data, 1, api.ErrFault}, {data, 2, api.ErrFault}, {data + 4, 1, api.ErrFault}, {data + 6, 2, api.ErrFault}, {data + 8, 4, api.ErrFault}, {data - 4, 4, api.ErrFault},
		{port, 1, api.ErrFault}, {port, 2, api.ErrFault}, {port + 4, 4, api.ErrFault}, {port - 4, 4, api.ErrFault},
		{soft, 1, api.ErrFault}, {soft, 2, api.ErrFault}, {soft + 4, 4, api.ErrFault}, {markLow - 4, 4, api.ErrFault}, {markLow + 8, 4, api.ErrFault},
		{markHigh, 2, api.ErrFault}, {timeLow, 1, api.ErrFault}, {timeLow - 4, 4, api.ErrFault}, {timeHigh, 2, api.ErrFault}, {timeHigh + 4, 4, api.ErrFault},
	} {
		if w, err := b.Load(k.addr, k.n, 17); w != 0 || err != k.want {
			t.Errorf("Load(%#x, %d): %#x %v, want %v", k.addr, k.n, w, err, k.want)
		}
		if hit, err := b.Store(k.addr, k.n, 0x5a5a5a5a, 17); hit || err != k.want {
			t.Errorf("Store(%#x, %d): %v %v, want %v", k.addr, k.n, hit, err, k.want)
		}
		if got := b.Class(k.addr, k.n); got != Nothing {
			t.Errorf("Class(%#x, %d): %d", k.addr, k.n, got)
		}
	}
	wantSeen(t, b, o)
}

// P14.2: Load and Store of what is nothing, at each address and width: 0, false, the error, and nothing changes.
func TestRefusedAccesses(t *testing.T) {
	for _, size := range []int{64, 192, 65536} {
		b, o := busy(t, size)
		for _, addr := range addresses(size) {
			for _, n := range append([]int{1, 2, 4}, wrongWidths...) {
				if o.error(addr, n) == api.OK {
					continue
				}
				for _, tick := range []uint64{0, 30, greatest} {
					wantLoad(t, b, o, addr, n, tick)
					wantStore(t, b, o, addr, n, 0xa5a5a5a5, tick)
				}
				if size < 1000 {
					wantSeen(t, b, o)
				}
			}
		}
		wantSeen(t, b, o)
	}
}

// P14.2: the memory by 1, 2 and 4 bytes, by numbers written out: lowest byte first.
func TestMemoryByNumbers(t *testing.T) {
	b, o := made(t, 64, nil)
	for _, k := range []struct {
		addr uint32
		n    int
		w    uint32
		want uint32 // the whole word at that place
	}{
		{base, 4, 0xa1b2c3d4, 0xa1b2c3d4},
		{base, 1, 0xffffff11, 0xa1b2c311},
		{base + 1, 1, 0x22, 0xa1b22211},
		{base + 2, 2, 0xeeee3344, 0x33442211},
		{base, 2, 0x5566, 0x33445566},
		{base + 3, 1, 0, 0x00445566},
		{base + 60, 4, 0x01020304, 0x01020304},
		{base + 63, 1, 0x99, 0x99020304},
		{base + 62, 2, 0xabcd, 0xabcd0304},
	} {
		if hit, err := b.Store(k.addr, k.n, k.w, 9); hit || err != api.OK {
			t.Errorf("Store(%#x, %d): %v %v", k.addr, k.n, hit, err)
		}
		if w, err := b.Load(k.addr&^3, 4, 9); w != k.want || err != api.OK {
			t.Errorf("behind Store(%#x, %d): %#x %v, want %#x", k.addr, k.n, w, err, k.want)
		}
		o.store(k.addr, k.n, k.w, 9)
		wantSeen(t, b, o)
	}
	for _, k := range []struct {
		addr uint32
		n    int
		want uint32
	}{
		{base, 1, 0x66}, {base + 1, 1, 0x55}, {base + 2, 1, 0x44}, {base + 3, 1, 0}, {base, 2, 0x5566}, {base + 2, 2, 0x44}, {base, 4, 0x00445566},
		{base + 60, 1, 4}, {base + 60, 2, 0x304}, {base + 62, 2, 0xabcd}, {base + 63, 1, 0xab}, {base + 60, 4, 0xabcd0304}, {base + 4, 4, 0},
	} {
		if w, err := b.Load(k.addr, k.n, 0); w != k.want || err != api.OK {
			t.Errorf("Load(%#x, %d): %#x %v, want %#x", k.addr, k.n, w, err, k.want)
		}
	}
	wantSeen(t, b, o)
}

// P14.2: Load and Store of the memory at each of its addresses.
func TestMemory(t *testing.T) {
	const size = 192
	b, o := busy(t, size)
	for i := range uint32(size) {
		for _, n := range []int{1, 2, 4} {
			wantLoad(t, b, o, base+i, n, uint64(i))
			wantSeen(t, b, o)
			wantStore(t, b, o, base+i, n, 0xf1e2d3c4+i, uint64(i))
			wantSeen(t, b, o)
			wantLoad(t, b, o, base+i, n, greatest)
		}
	}
	for _, size := range []int{64, 65536} {
		b, o := busy(t, size)
		for _, n := range []int{1, 2, 4} {
			for _, addr := range []uint32{base, base + uint32(size-n), base + uint32(size), base - uint32(n)} {
				wantStore(t, b, o, addr, n, 0x89abcdef, 3)
				wantLoad(t, b, o, addr, n, 3)
			}
		}
		wantSeen(t, b, o)
	}
}

// P14.2: a store tells whether the memory was hit: its page was watched, which it is no more.
func TestStoreTellsHits(t *testing.T) {
	for _, n := range []int{1, 2, 4} {
		b, o := made(t, 256, nil)
		for round := range uint64(3) {
			for _, p := range []int{2, 0, 3} {
				watchBoth(t, b, o, p)
				addr := uint32(base + p*pageSize + pageSize - n)
				for i, want := range []bool{true, false, false} {
					if hit, err := b.Store(addr, n, 7, round); hit != want || err != api.OK {
						t.Errorf("page %d, store %d: %v %v, want %v", p, i, hit, err, want)
					}
					o.store(addr, n, 7, round)
					wantSeen(t, b, o)
				}
				if b.Ram().Watched(p) || b.Ram().Gen(p) != round+1 {
					t.Errorf("page %d: %v %d", p, b.Ram().Watched(p), b.Ram().Gen(p))
				}
			}
			// Page 1 was never watched.
			if hit, err := b.Store(base+pageSize, n, 7, round); hit || err != api.OK {
				t.Errorf("page 1: %v %v", hit, err)
			}
			o.store(base+pageSize, n, 7, round)
		}
	}
}

// P14.2: a store to a device never tells that the memory was hit, though all pages are watched.
func TestStoreToDevicesHitsNothing(t *testing.T) {
	for _, w := range words {
		b, o := busy(t, 128)
		for _, addr := range registers {
			if hit, err := b.Store(addr, 4, w, 20); hit || err != api.OK {
				t.Errorf("Store(%#x, 4, %#x): %v %v", addr, w, hit, err)
			}
			o.store(addr, 4, w, 20)
			wantSeen(t, b, o)
			if !b.Ram().Watched(0) || !b.Ram().Watched(1) {
				t.Errorf("Store(%#x, 4, %#x): a page is watched no more", addr, w)
			}
		}
	}
}

// P14.1, P14.2: PortOff: 0 is read; what is written is the code, and the power is off; a later one is the code anew.
func TestPort(t *testing.T) {
	for _, first := range words {
		b, o := busy(t, 64)
		if code, off := b.Off(); code != 0 || off {
			t.Fatalf("Off ahead of a store: %#x %v", code, off)
		}
		wantPortReadsNought(t, b)
		if code, off := b.Off(); code != 0 || off {
			t.Fatalf("Off behind a load: %#x %v", code, off)
		}
		for _, w := range append([]uint32{first}, words...) {
			if hit, err := b.Store(port, 4, w, uint64(w)); hit || err != api.OK {
				t.Fatalf("Store of %#x: %v %v", w, hit, err)
			}
			if code, off := b.Off(); code != w || !off {
				t.Fatalf("Off behind %#x: %#x %v", w, code, off)
			}
			wantPortReadsNought(t, b)
			o.off, o.code = true, w
			wantSeen(t, b, o)
		}
	}
}

func wantPortReadsNought(t *testing.T, b *Bus) {
	t.Helper()
	for _, tick := range []uint64{0, 5, greatest} {
		if w, err := b.Load(port, 4, tick); w != 0 || err != api.OK {
			t.Fatalf("Load of the port: %#x %v", w, err)
		}
	}
}

// P14.2: what may not be written to the port, and what is written next to it, leaves the power on.
func TestPowerStaysOn(t *testing.T) {
	b, o := busy(t, 64)
	for _, n := range append([]int{1, 2}, wrongWidths...) {
		wantStore(t, b, o, port, n, 5, 0)
	}
	for d := range uint32(64) {
		if d != 32 {
			wantStore(t, b, o, port-32+d, 4, 5, 0)
		}
	}
	for _, addr := range append([]uint32{base, base + 60}, registers[1:]...) {
		wantStore(t, b, o, addr, 4, 5, 0)
	}
	if code, off := b.Off(); code != 0 || off {
		t.Errorf("Off: %#x %v", code, off)
	}
	wantSeen(t, b, o)
}

// P14.2: what is asked of a bus whose power is off is answered as ahead of that.
func TestBusWithoutPower(t *testing.T) {
	b, o := busy(t, 128)
	wantStore(t, b, o, port, 4, 9, 0)
	for _, addr := range append([]uint32{base, base + 64, base + 124}, registers[1:]...) {
		wantLoad(t, b, o, addr, 4, 40)
		wantStore(t, b, o, addr, 4, 0x12345678, 40)
		wantLoad(t, b, o, addr, 4, 41)
		if got, want := b.Class(addr, 4), o.class(addr, 4); got != want {
			t.Errorf("Class(%#x): %d, want %d", addr, got, want)
		}
		if got, want := b.Calls(41), o.calls(41); got != want {
			t.Errorf("Calls: %#x, want %#x", got, want)
		}
		wantSeen(t, b, o)
	}
}

// P14.2: the console's register 0: what waits is read in order, and waits no more; then 0.
func TestConsoleIsRead(t *testing.T) {
	b, o := made(t, 64, []api.Arrival{{Tick: 1, Byte: 'a'}, {Tick: 1, Byte: 0}, {Tick: 1, Byte: 0xff}, {Tick: 4, Byte: 'd'}})
	want := func(tick uint64, waits int, w uint32) {
		t.Helper()
		if got, err := b.Load(data, 4, tick); got != w || err != api.OK {
			t.Errorf("Load at tick %d: %#x %v, want %#x", tick, got, err, w)
		}
		o.take()
		wantSeen(t, b, o)
		if got := len(b.Console().Waits()); got != waits {
			t.Errorf("%d wait, want %d", got, waits)
		}
	}
	want(0, 0, 0)
	upBoth(b, o, 1)
	want(1, 2, 'a')
	want(1, 1, 0)
	want(1, 0, 0xff)
	want(1, 0, 0)
	upBoth(b, o, 4)
	want(4, 0, 'd')
	want(5, 0, 0)
}

// P14.2: an access does not make the console up to its tick: what comes, comes by Up alone.
func TestAccessesLetNothingCome(t *testing.T) {
	b, o := made(t, 64, arrivals(5))
	for _, addr := range append([]uint32{base}, registers...) {
		wantLoad(t, b, o, addr, 4, 100)
		wantStore(t, b, o, addr, 4, 0, 100)
		wantSeen(t, b, o)
	}
	if w := b.Calls(100) &^ 128; w != 0 || b.Class(data, 4) != Device || b.Console().Came() != 0 {
		t.Errorf("Calls: %#x, came %d", w, b.Console().Came())
	}
}

// P14.2: the console's register 4: with and without a byte that waits, with and without Over, which a store takes back.
func TestConsoleStatus(t *testing.T) {
	b, o := made(t, 64, arrivals(17))
	want := func(w uint32) {
		t.Helper()
		for range 2 {
			if got, err := b.Load(status, 4, 50); got != w || err != api.OK {
				t.Errorf("the status: %d %v, want %d", got, err, w)
			}
		}
		wantSeen(t, b, o)
	}
	want(0)
	upBoth(b, o, 1)
	want(1)
	wantLoad(t, b, o, data, 4, 50)
	want(0)
	upBoth(b, o, 16)
	want(1)
	for _, w := range words {
		b, o := busy(t, 64)
		wantLoad(t, b, o, status, 4, 50)
		wantStore(t, b, o, status, 4, w, 50)
		if b.Console().Over() || len(b.Console().Waits()) != 16 {
			t.Errorf("%#x was written: over %v, waits %d", w, b.Console().Over(), b.Console().Waits())
		}
		wantLoad(t, b, o, status, 4, 50)
		wantSeen(t, b, o)
	}
	b, o = busy(t, 64)
	want(3)
	for range 16 {
		wantLoad(t, b, o, data, 4, 50)
	}
	want(2)
	wantStore(t, b, o, status, 4, 0xffffffff, 50)
	want(0)
	upBoth(b, o, 18)
	want(1)
}

// P14.2: what is written to the console's register 0 goes out: its lowest 8 bits; what waits stays.
func TestConsoleIsWritten(t *testing.T) {
	b, o := busy(t, 64)
	was := b.Console().Out()
	for i, w := range []uint32{0x41, 0x142, 0xffffff43, 0, 0xffffffff, 0x80000000, 0x1000} {
		if hit, err := b.Store(data, 4, w, 3); hit || err != api.OK {
			t.Errorf("Store of %#x: %v %v", w, hit, err)
		}
		o.store(data, 4, w, 3)
		wantSeen(t, b, o)
		if got := len(b.Console().Out()); got != len(was)+i+1 {
			t.Errorf("%d went out", got)
		}
	}
	if got, want := b.Console().Out()[len(was):], []byte{0x41, 0x42, 0x43, 0, 0xff, 0, 0}; !bytes.Equal(got, want) {
		t.Errorf("%x went out, want %x", got, want)
	}
	for _, n := range append([]int{1, 2}, wrongWidths...) {
		wantStore(t, b, o, data, n, 0x58, 3)
	}
	wantSeen(t, b, o)
}

// P14.2: the timer's registers by the bus, by numbers written out.
func TestTimerByNumbers(t *testing.T) {
	b, _ := made(t, 64, nil)
	*b.Timer() = timer.Timer{Offset: 0x89abcdef_01234567, Mark: 0xfedcba98_76543210, Soft: true}
	for _, k := range []struct {
		addr uint32
		tick uint64
		want uint32
	}{
		{soft, 0, 1}, {soft, greatest, 1},
		{markLow, 0, 0x76543210}, {markLow, 7, 0x76543210}, {markHigh, 0, 0xfedcba98}, {markHigh, greatest, 0xfedcba98},
		{timeLow, 0, 0x01234567}, {timeLow, 1, 0x01234568}, {timeLow, 0xfedcba99, 0}, {timeHigh, 0, 0x89abcdef}, {timeHigh, 0xfedcba99, 0x89abcdf0},
		{timeHigh, 0x76543210_fedcba99, 0}, {timeLow, 0x76543210_fedcba99, 0},
	} {
		if w, err := b.Load(k.addr, 4, k.tick); w != k.want || err != api.OK {
			t.Errorf("Load(%#x) at %#x: %#x %v, want %#x", k.addr, k.tick, w, err, k.want)
		}
	}
	for _, k := range []struct {
		addr, w uint32
		tick    uint64
		want    timer.Timer
	}{
		{soft, 0xfffffffe, 0, timer.Timer{Offset: 0x89abcdef_01234567, Mark: 0xfedcba98_76543210}},
		{soft, 3, 0, timer.Timer{Offset: 0x89abcdef_01234567, Mark: 0xfedcba98_76543210, Soft: true}},
		{markLow, 5, 9, timer.Timer{Offset: 0x89abcdef_01234567, Mark: 0xfedcba98_00000005, Soft: true}},
		{markHigh, 6, 9, timer.Timer{Offset: 0x89abcdef_01234567, Mark: 0x00000006_00000005, Soft: true}},
		{timeHigh, 0, 0x11, timer.Timer{Offset: 0x00000000_01234567, Mark: 0x00000006_00000005, Soft: true}},
		{timeLow, 90, 40, timer.Timer{Offset: 50, Mark: 0x00000006_00000005, Soft: true}},
		{timeLow, 10, 40, timer.Timer{Offset: greatest - 29, Mark: 0x00000006_00000005, Soft: true}},
	} {
		if hit, err := b.Store(k.addr, 4, k.w, k.tick); hit || err != api.OK || *b.Timer() != k.want {
			t.Errorf("Store(%#x, %#x) at %#x: %v %v, %+v, want %+v", k.addr, k.w, k.tick, hit, err, *b.Timer(), k.want)
		}
	}
}

// P14.2: the timer's registers by the bus: each half, at ticks at which it is up and not.
func TestTimer(t *testing.T) {
	few := []uint64{0, 1, 100, 1<<32 - 1, 1 << 32, 0x89abcdef_01234567, 1 << 63, greatest - 1, greatest}
	for _, offset := range few {
		for _, mark := range few {
			for _, tick := range few {
				b, o := made(t, 64, nil)
				o.clock = timer.Timer{Offset: offset, Mark: mark, Soft: tick%2 == 0}
				*b.Timer() = o.clock
				for i, addr := range registers[3:] {
					wantLoad(t, b, o, addr, 4, tick)
					wantStore(t, b, o, addr, 4, uint32(offset>>7)^uint32(mark)^words[i], tick)
					wantSeen(t, b, o)
					wantLoad(t, b, o, addr, 4, tick)
					wantLoad(t, b, o, addr, 4, tick+1)
					if got, want := b.Calls(tick), o.calls(tick); got != want {
						t.Fatalf("Calls(%#x): %#x, want %#x", tick, got, want)
					}
				}
			}
		}
	}
}

// P14.2: Calls: each that calls alone, and all of them together; no other bit.
func TestCalls(t *testing.T) {
	for who := range 8 {
		var l []api.Arrival
		want := uint32(0)
		if who&1 != 0 {
			l = arrivals(1)
			want += 1 << 11
		}
		b, o := made(t, 64, l)
		if who&2 != 0 {
			b.Timer().Soft = true
			want += 1 << 3
		}
		b.Timer().Mark = 10
		o.clock = *b.Timer()
		upBoth(b, o, 1)
		if who&4 != 0 {
			want += 1 << 7
		}
		ticks := []uint64{0, 1, 9}
		if who&4 != 0 {
			ticks = []uint64{10, 11, greatest}
		}
		for _, tick := range ticks {
			if got := b.Calls(tick); got != want {
				t.Errorf("Calls(%d): %#x, want %#x", tick, got, want)
			}
		}
		wantSeen(t, b, o)
	}
}

// P14.2: Calls, as what calls comes and goes by the bus itself.
func TestCallsComeAndGo(t *testing.T) {
	b, o := made(t, 64, arrivals(2))
	want := func(tick uint64, w uint32) {
		t.Helper()
		if got := b.Calls(tick); got != w || got != o.calls(tick) {
			t.Errorf("Calls(%d): %#x, want %#x", tick, got, w)
		}
		wantSeen(t, b, o)
	}
	want(0, 0)
	want(greatest, 0x80)
	want(greatest-1, 0)
	wantStore(t, b, o, markHigh, 4, 0, 0)
	wantStore(t, b, o, markLow, 4, 10, 0)
	want(9, 0)
	want(10, 0x80)
	wantStore(t, b, o, soft, 4, 1, 0)
	want(9, 8)
	want(10, 0x88)
	upBoth(b, o, 2)
	want(9, 0x808)
	want(10, 0x888)
	wantLoad(t, b, o, data, 4, 10)
	want(10, 0x888)
	wantLoad(t, b, o, data, 4, 10)
	want(10, 0x88)
	wantStore(t, b, o, soft, 4, 2, 10)
	want(10, 0x80)
	wantStore(t, b, o, timeLow, 4, 9, 10)
	want(10, 0)
	want(11, 0x80)
	wantStore(t, b, o, markLow, 4, 0xffffffff, 11)
	want(11, 0)
	wantStore(t, b, o, port, 4, 1, 11)
	want(11, 0)
}

// P14.2: Calls: a byte that was lost, and one that went out, call nobody.
func TestCallsOfLostBytes(t *testing.T) {
	b, o := busy(t, 64)
	b.Timer().Soft, o.clock.Soft = false, false
	b.Timer().Mark, o.clock.Mark = greatest, greatest
	for range 16 {
		if got := b.Calls(0); got != 1<<11 {
			t.Errorf("Calls: %#x", got)
		}
		wantLoad(t, b, o, data, 4, 0)
	}
	if got := b.Calls(0); got != 0 || !b.Console().Over() {
		t.Errorf("Calls: %#x, over %v", got, b.Console().Over())
	}
}

// P14.1: what is done to the parts that Ram, Console and Timer tell is seen by the bus, and what the bus does is seen of them.
func TestPartsAreShared(t *testing.T) {
	m, c, x := parts(t, 128, arrivals(3))
	b, err := New(m, c, x)
	if err != api.OK {
		t.Fatal(err)
	}
	if err := b.Ram().Fill(base+64, []byte{1, 2, 3, 4}); err != api.OK {
		t.Fatal(err)
	}
	if w, err := b.Load(base+64, 4, 0); w != 0x04030201 || err != api.OK {
		t.Errorf("Load: %#x %v", w, err)
	}
	if err := b.Ram().Watch(1); err != api.OK {
		t.Fatal(err)
	}
	if hit, err := b.Store(base+64, 4, 0x0a0b0c0d, 0); !hit || err != api.OK {
		t.Errorf("Store: %v %v", hit, err)
	}
	if w, err := m.Load(base+64, 4); w != 0x0a0b0c0d || err != api.OK || m.Watched(1) || m.Gen(1) != 1 {
		t.Errorf("the memory: %#x %v, %v %d", w, err, m.Watched(1), m.Gen(1))
	}
	b.Console().Up(2)
	if w, err := b.Load(data, 4, 2); w != 65 || err != api.OK || len(c.Waits()) != 1 || b.Calls(2) != 1<<11 {
		t.Errorf("Load: %#x %v, waits %d, calls %#x", w, err, c.Waits(), b.Calls(2))
	}
	if _, err := b.Store(data, 4, 'x', 2); err != api.OK || string(c.Out()) != "x" {
		t.Errorf("Store: %v, %q", err, c.Out())
	}
	b.Timer().Mark, b.Timer().Soft = 7, true
	if w, err := b.Load(markLow, 4, 0); w != 7 || err != api.OK || b.Calls(7) != 1<<11|1<<7|1<<3 {
		t.Errorf("Load: %#x %v, calls %#x", w, err, b.Calls(7))
	}
	if _, err := b.Store(markLow, 4, 8, 0); err != api.OK || x.Mark != 8 {
		t.Errorf("Store: %v, %+v", err, *x)
	}
	if b.Ram() != m || b.Console() != c || b.Timer() != x {
		t.Errorf("other parts than those that were handed in")
	}
}

// P14.1: two buses of the same parts have each a power of its own; those of other parts have nothing in common.
func TestBusesAreApart(t *testing.T) {
	m, c, x := parts(t, 64, nil)
	first, _ := New(m, c, x)
	second, _ := New(m, c, x)
	other, o := busy(t, 64)
	if _, err := first.Store(port, 4, 7, 0); err != api.OK {
		t.Fatal(err)
	}
	if _, err := first.Store(base, 4, 0x1234, 0); err != api.OK {
		t.Fatal(err)
	}
	if code, off := first.Off(); code != 7 || !off {
		t.Errorf("the first: %d %v", code, off)
	}
	if code, off := second.Off(); code != 0 || off {
		t.Errorf("the second: %d %v", code, off)
	}
	if w, err := second.Load(base, 4, 0); w != 0x1234 || err != api.OK {
		t.Errorf("the second: %#x %v", w, err)
	}
	wantSeen(t, other, o)
}

// wantNoBus asks a bus without parts for each function's answer.
func wantNoBus(t *testing.T, b *Bus) {
	t.Helper()
	if b.Ram() != nil || b.Console() != nil || b.Timer() != nil {
		t.Errorf("parts: %v %v %v", b.Ram(), b.Console(), b.Timer())
	}
	for _, addr := range addresses(64) {
		for _, n := range append([]int{1, 2, 4}, wrongWidths...) {
			if got := b.Class(addr, n); got != Nothing {
				t.Fatalf("Class(%#x, %d): %d", addr, n, got)
			}
			if w, err := b.Load(addr, n, 5); w != 0 || err != api.ErrShape {
				t.Fatalf("Load(%#x, %d): %#x %v", addr, n, w, err)
			}
			if hit, err := b.Store(addr, n, 0x5a5a5a5a, 5); hit || err != api.ErrShape {
				t.Fatalf("Store(%#x, %d): %v %v", addr, n, hit, err)
			}
		}
	}
	for _, tick := range []uint64{0, 1, 1 << 63, greatest} {
		if got := b.Calls(tick); got != 0 {
			t.Errorf("Calls(%d): %#x", tick, got)
		}
	}
	if code, off := b.Off(); code != 0 || off {
		t.Errorf("Off: %#x %v", code, off)
	}
}

// P14.1, P14.2: each function of a nil bus.
func TestNil(t *testing.T) {
	wantNoBus(t, nil)
}

// A bus that New did not make has no parts: it is asked like a nil one, and none of its calls panics.
func TestBusThatNewDidNotMake(t *testing.T) {
	wantNoBus(t, &Bus{})
}

// devices is all that there is of a bus beside its memory; it is compared whole.
type devices struct {
	waits, out  string
	came        int
	over, ready bool
	next        uint64
	isNext      bool
	clock       timer.Timer
	code        uint32
	off         bool
	calls       uint32
}

func devicesOf(b *Bus) devices {
	c := b.Console()
	d := devices{waits: string(c.Waits()), out: string(c.Out()), came: c.Came(), over: c.Over(), ready: c.Ready(), clock: *b.Timer(), calls: b.Calls(0)}
	d.next, d.isNext = c.Next()
	d.code, d.off = b.Off()
	return d
}

// memory is all that there is of a memory; it is compared whole.
type memory struct {
	bytes   string
	watched [4]bool
	gens    [4]uint64
}

func memoryOf(b *Bus) memory {
	m := memory{bytes: string(b.Ram().Bytes())}
	for p := range m.watched {
		m.watched[p], m.gens[p] = b.Ram().Watched(p), b.Ram().Gen(p)
	}
	return m
}

// row answers numbers that look mixed, the same ones each time.
func row(seed uint64) func(n int) int {
	return func(n int) int {
		seed = seed*6364136223846793005 + 1442695040888963407
		return int(seed >> 33 % uint64(n))
	}
}

// anyAddress answers one of the memory, of a device, near them, or far away.
func anyAddress(below func(n int) int) uint32 {
	switch below(8) {
	case 0:
		return uint32(below(1<<31)) * 2
	case 1:
		return registers[below(len(registers))] + uint32(below(9)) - 4
	case 2, 3, 4:
		return registers[below(len(registers))]
	}
	return uint32(base - 4 + below(264))
}

// P14.3: over many accesses in turn those of the memory leave the devices as they were, those of devices the memory,
// and those of nothing all.
func TestAccessesStayApart(t *testing.T) {
	counts := [3]int{}
	for seed := range uint64(20) {
		below := row(seed)
		b, _ := busy(t, 256)
		for tick := uint64(20); tick < 620; tick++ {
			if err := b.Ram().Watch(below(4)); err != api.OK {
				t.Fatal(err)
			}
			addr, n := anyAddress(below), []int{1, 2, 4, 4, 4, 3}[below(6)]
			class, d, m := b.Class(addr, n), devicesOf(b), memoryOf(b)
			counts[class]++
			if below(2) == 0 {
				b.Load(addr, n, tick)
				if m != memoryOf(b) {
					t.Fatalf("Load(%#x, %d) changed the memory", addr, n)
				}
			} else {
				b.Store(addr, n, uint32(below(1<<31))*3, tick)
			}
			if class != Memory && m != memoryOf(b) {
				t.Fatalf("an access of %d at %#x, class %d, changed the memory", n, addr, class)
			}
			if class != Device && d != devicesOf(b) {
				t.Fatalf("an access of %d at %#x, class %d, changed devices: %+v, were %+v", n, addr, class, devicesOf(b), d)
			}
		}
	}
	if counts[Nothing] < 500 || counts[Memory] < 500 || counts[Device] < 500 {
		t.Errorf("too few of a class: %d", counts)
	}
}

// P14.3: each address of the memory, and each register, by itself.
func TestEachAccessStaysApart(t *testing.T) {
	b, _ := busy(t, 256)
	d := devicesOf(b)
	for i := range uint32(256) {
		for _, n := range []int{1, 2, 4} {
			b.Load(base+i, n, greatest)
			b.Store(base+i, n, 0xffffffff, greatest)
			if d != devicesOf(b) {
				t.Fatalf("an access of %d at byte %d changed devices: %+v, were %+v", n, i, devicesOf(b), d)
			}
		}
	}
	b, _ = busy(t, 256)
	m := memoryOf(b)
	for _, addr := range registers {
		for _, w := range words {
			b.Load(addr, 4, 50)
			b.Store(addr, 4, w, 50)
			if m != memoryOf(b) {
				t.Fatalf("an access at %#x changed the memory", addr)
			}
		}
	}
}

// P14.1 to P14.3: long rows of calls, with all of the bus looked at behind each.
func TestRows(t *testing.T) {
	for seed := range uint64(20) {
		below := row(seed + 100)
		b, o := made(t, 256, arrivals(60))
		tick := uint64(0)
		for range 500 {
			addr, n := anyAddress(below), []int{1, 2, 4, 4, 4, 3}[below(6)]
			switch below(8) {
			case 0:
				watchBoth(t, b, o, below(4))
			case 1:
				tick += uint64(below(5))
				upBoth(b, o, tick)
			case 2, 3, 4:
				wantLoad(t, b, o, addr, n, tick)
			default:
				wantStore(t, b, o, addr, n, uint32(below(1<<31))*3>>below(32), tick)
			}
			wantSeen(t, b, o)
			if got, want := b.Class(addr, n), o.class(addr, n); got != want {
				t.Fatalf("Class(%#x, %d): %d, want %d", addr, n, got, want)
			}
			if got, want := b.Calls(tick), o.calls(tick); got != want {
				t.Fatalf("Calls(%d): %#x, want %#x", tick, got, want)
			}
		}
	}
}

// The chapter's example.
func TestExample(t *testing.T) {
	b, _ := made(t, 64, nil)
	if hit, err := b.Store(api.Console, 4, 0x12345641, 0); hit || err != api.OK {
		t.Errorf("Store: %v %v", hit, err)
	}
	if got := b.Console().Out(); string(got) != "A" {
		t.Errorf("%q went out", got)
	}
}
