package console

import (
	"bytes"
	"math"
	"testing"

	"mimesis/api"
)

// The document's numbers, told anew.
const (
	room     = 16  // bytes that may wait
	maxInput = 256 // arrivals that may be
	data     = 0
	status   = 4
	greatest = math.MaxUint64
)

// model is a console told anew: what is to come, and what waits, are lists that are cut in front.
type model struct {
	coming         []api.Arrival
	row, out, lost []byte
	over           bool
	came           int
}

func modelOf(l []api.Arrival) *model {
	return &model{coming: append([]api.Arrival{}, l...)}
}

func (o *model) up(tick uint64) {
	for len(o.coming) > 0 && o.coming[0].Tick <= tick {
		b := o.coming[0].Byte
		o.coming = o.coming[1:]
		o.came++
		if len(o.row) < room {
			o.row = append(append([]byte{}, o.row...), b)
		} else {
			o.lost = append(o.lost, b)
			o.over = true
		}
	}
}

func (o *model) readData() uint32 {
	if len(o.row) == 0 {
		return 0
	}
	b := o.row[0]
	o.row = o.row[1:]
	return uint32(b)
}

func (o *model) readStatus() uint32 {
	switch {
	case o.over && len(o.row) > 0:
		return 3
	case o.over:
		return 2
	case len(o.row) > 0:
		return 1
	}
	return 0
}

func (o *model) write(reg int, w uint32) {
	switch reg {
	case data:
		o.out = append(append([]byte{}, o.out...), byte(w%256))
	case status:
		o.over = false
	}
}

// wantSeen holds all that can be seen of a console, without changing it, against the model.
func wantSeen(t *testing.T, c *Console, o *model) {
	t.Helper()
	if got := c.Ready(); got != (len(o.row) > 0) {
		t.Fatalf("Ready: %v of %d", got, o.row)
	}
	tick, is := c.Next()
	if len(o.coming) == 0 {
		if tick != 0 || is {
			t.Fatalf("Next: %d %v, want none", tick, is)
		}
	} else if tick != o.coming[0].Tick || !is {
		t.Fatalf("Next: %d %v, want %d", tick, is, o.coming[0].Tick)
	}
	if got := c.Out(); !bytes.Equal(got, o.out) {
		t.Fatalf("Out: %d, want %d", got, o.out)
	}
	if got := c.Waits(); !bytes.Equal(got, o.row) {
		t.Fatalf("Waits: %d, want %d", got, o.row)
	}
	if got := c.Came(); got != o.came {
		t.Fatalf("Came: %d, want %d", got, o.came)
	}
	if got := c.Over(); got != o.over {
		t.Fatalf("Over: %v, want %v", got, o.over)
	}
	if w, err := c.Read(status); w != o.readStatus() || err != api.OK {
		t.Fatalf("Read of the status: %d %v, want %d", w, err, o.readStatus())
	}
}

// wantRead reads the data register, and holds it and what is behind it against the model.
func wantRead(t *testing.T, c *Console, o *model) {
	t.Helper()
	want := o.readData()
	if w, err := c.Read(data); w != want || err != api.OK {
		t.Fatalf("Read of the data: %d %v, want %d", w, err, want)
	}
	wantSeen(t, c, o)
}

// wantDrained reads until nothing waits, and once more.
func wantDrained(t *testing.T, c *Console, o *model) {
	t.Helper()
	for range len(o.row) + 1 {
		wantRead(t, c, o)
	}
}

func upBoth(t *testing.T, c *Console, o *model, tick uint64) {
	t.Helper()
	c.Up(tick)
	o.up(tick)
	wantSeen(t, c, o)
}

func writeBoth(t *testing.T, c *Console, o *model, reg int, w uint32) {
	t.Helper()
	if err := c.Write(reg, w); err != api.OK {
		t.Fatalf("Write(%d, %#x): %v", reg, w, err)
	}
	o.write(reg, w)
	wantSeen(t, c, o)
}

func made(t *testing.T, l []api.Arrival) (*Console, *model) {
	t.Helper()
	c, err := New(l)
	if c == nil || err != api.OK {
		t.Fatalf("New: %v %v", c, err)
	}
	o := modelOf(l)
	wantSeen(t, c, o)
	return c, o
}

// at answers arrivals at these ticks, with bytes of which none is 0 and no two neighbours are alike.
func at(ticks ...uint64) []api.Arrival {
	l := make([]api.Arrival, len(ticks))
	for i, tick := range ticks {
		l[i] = api.Arrival{Tick: tick, Byte: byte(1 + i*7%255)}
	}
	return l
}

// allAt answers n arrivals at one tick.
func allAt(n int, tick uint64) []api.Arrival {
	ticks := make([]uint64, n)
	for i := range ticks {
		ticks[i] = tick
	}
	return at(ticks...)
}

// rising answers n arrivals, of which each two come together, with nothing at the odd ticks.
func rising(n int) []api.Arrival {
	ticks := make([]uint64, n)
	for i := range ticks {
		ticks[i] = uint64(i / 2 * 2)
	}
	return at(ticks...)
}

// otherRegs are no registers; the registers' numbers in more than 32 bits are among them.
var otherRegs = []int{1, 2, 3, 5, 6, 7, 8, 12, 16, 255, 256, 260, -1, -4, -8, 1 << 31, 1<<32 + 4, 1 << 32, -1 << 32, 4 - 1<<32,
	math.MaxInt32, math.MinInt32, math.MaxInt, math.MinInt, math.MinInt + 4}

// P12.1: the limits.
func TestLimits(t *testing.T) {
	if api.FifoSize != room || api.MaxInput != maxInput {
		t.Fatalf("%d %d", api.FifoSize, api.MaxInput)
	}
}

// P12.1: New(l): of nothing, one, MaxInput, ticks that stay, ticks that rise.
func TestNew(t *testing.T) {
	for _, l := range [][]api.Arrival{
		nil, {}, at(0), at(3), at(greatest), at(0, 0), at(0, 1), at(5, 5, 5), at(0, greatest), at(greatest, greatest),
		at(1<<32-1, 1<<32, 1<<63-1, 1<<63, greatest), allAt(room, 2), allAt(room+1, 2), allAt(maxInput-1, 7), allAt(maxInput, 7), rising(maxInput),
	} {
		c, o := made(t, l)
		if c.Came() != 0 || c.Ready() || c.Over() || len(c.Out()) != 0 {
			t.Fatalf("a new one of %v: %d %v %v %d", l, c.Came(), c.Ready(), c.Over(), c.Out())
		}
		upBoth(t, c, o, greatest)
		wantDrained(t, c, o)
	}
}

// P12.1: New(l): ErrLong, ErrForm, and which of the two is told.
func TestNewWrong(t *testing.T) {
	falls := rising(maxInput)
	falls[maxInput-1].Tick = falls[maxInput-2].Tick - 1
	fallsAndLong := append(rising(maxInput), at(3)...)
	cases := []struct {
		name string
		l    []api.Arrival
		want api.Errno
	}{
		{"one more than MaxInput", allAt(maxInput+1, 7), api.ErrLong},
		{"one more than MaxInput, at rising ticks", rising(maxInput + 1), api.ErrLong},
		{"many more", allAt(5000, 7), api.ErrLong},
		{"one more, that falls", fallsAndLong, api.ErrLong},
		{"many that fall from the beginning", append(at(9, 1), allAt(maxInput, 9)...), api.ErrLong},
		{"falls at once", at(2, 1), api.ErrForm},
		{"falls to 0", at(1, 0), api.ErrForm},
		{"falls at its end", falls, api.ErrForm},
		{"falls, and rises above", at(5, 4, 9), api.ErrForm},
		{"falls below one before, that stayed", at(5, 5, 4), api.ErrForm},
		{"falls by a little from far", at(greatest, greatest-1), api.ErrForm},
		{"falls from far, as numbers with a sign would not", at(1<<63, 1), api.ErrForm},
		{"falls, as numbers of 32 bits would not", at(1<<32, 1), api.ErrForm},
	}
	for _, k := range cases {
		if c, err := New(k.l); c != nil || err != k.want {
			t.Errorf("%s: %v %v, want %v", k.name, c, err, k.want)
		}
	}
}

// P12.1: New(l): the list that is handed in is neither kept nor changed, nor what lies behind its end.
func TestNewKeepsNoList(t *testing.T) {
	whole := at(1, 2, 3, 4, 5, 6)
	l := whole[:4]
	o := modelOf(l)
	c, err := New(l)
	if err != api.OK {
		t.Fatal(err)
	}
	c.Up(1)
	o.up(1)
	want := at(1, 2, 3, 4, 5, 6)
	for i := range whole {
		if whole[i] != want[i] {
			t.Fatalf("arrival %d was changed: %v", i, whole[i])
		}
		whole[i] = api.Arrival{Tick: 0, Byte: 99}
	}
	for tick := range uint64(8) {
		upBoth(t, c, o, tick)
	}
	wantDrained(t, c, o)
}

// P12.1: two consoles of one list go their own ways.
func TestNewOfOneList(t *testing.T) {
	l := at(1, 2, 3)
	c, o := made(t, l)
	d, p := made(t, l)
	upBoth(t, c, o, 2)
	wantSeen(t, d, p)
	writeBoth(t, d, p, data, 5)
	wantSeen(t, c, o)
	wantRead(t, c, o)
	upBoth(t, d, p, 9)
	wantSeen(t, c, o)
	wantDrained(t, d, p)
	wantDrained(t, c, o)
}

// P12.1, example 1.
func TestExample(t *testing.T) {
	c, err := New([]api.Arrival{{Tick: 3, Byte: 'a'}})
	if err != api.OK {
		t.Fatal(err)
	}
	c.Up(2)
	if l := c.Waits(); len(l) != 0 {
		t.Errorf("up to 2: %d", l)
	}
	c.Up(3)
	if l := c.Waits(); string(l) != "a" {
		t.Errorf("up to 3: %q", l)
	}
}

// P12.1: Up(tick): below all arrivals, at one, between two, above all, at 0, at the greatest.
func TestUp(t *testing.T) {
	lists := [][]api.Arrival{
		nil, at(0), at(0, 0, 1), at(4, 8, 8, 12), at(1<<32-1, 1<<32, 1<<32+1), at(1<<63-1, 1<<63), at(greatest-1, greatest), rising(20),
	}
	ticks := []uint64{0, 1, 3, 4, 5, 7, 8, 9, 11, 12, 13, 1<<32 - 2, 1<<32 - 1, 1 << 32, 1<<32 + 1, 1<<32 + 2, 1<<63 - 2, 1<<63 - 1, 1 << 63, 1<<63 + 1,
		greatest - 2, greatest - 1, greatest}
	for _, l := range lists {
		for _, tick := range ticks {
			c, o := made(t, l)
			upBoth(t, c, o, tick)
			upBoth(t, c, o, tick)
			wantDrained(t, c, o)
		}
	}
}

// P12.1: Up(tick): to a lower tick than before nothing goes back, and nothing comes twice.
func TestUpLower(t *testing.T) {
	c, o := made(t, at(2, 4, 4, 6))
	for _, tick := range []uint64{4, 3, 2, 0, 4, 5, 1, 6, 6, 0, greatest, 0, 4} {
		upBoth(t, c, o, tick)
	}
	if want := []byte{1, 8, 15, 22}; !bytes.Equal(c.Waits(), want) {
		t.Fatalf("%d, want %d", c.Waits(), want)
	}
	wantDrained(t, c, o)
	for _, tick := range []uint64{4, 6, greatest} {
		upBoth(t, c, o, tick)
	}
}

// P12.1: Up(tick): what has no room is lost, with Over set, and came nevertheless.
func TestUpFull(t *testing.T) {
	for n := range 2*room + 3 {
		c, o := made(t, append(allAt(n, 5), at(6, 7)...))
		upBoth(t, c, o, 4)
		c.Up(5)
		o.up(5)
		if c.Came() != n || c.Over() != (n > room) || len(c.Waits()) != min(n, room) {
			t.Fatalf("%d arrivals: %d came, %d wait, over %v", n, c.Came(), len(c.Waits()), c.Over())
		}
		wantSeen(t, c, o)
		wantRead(t, c, o)
		upBoth(t, c, o, 6)
		writeBoth(t, c, o, status, 0)
		upBoth(t, c, o, 7)
		if want := n >= room; c.Over() != want {
			t.Fatalf("%d arrivals: Over is %v behind the last one", n, !want)
		}
		wantDrained(t, c, o)
		if c.Over() != (n >= room) {
			t.Fatal("Over is taken back by reading")
		}
	}
}

// P12.1: Read(0): each byte, 0 too; with none that waits 0.
func TestReadData(t *testing.T) {
	l := make([]api.Arrival, maxInput)
	for i := range l {
		l[i] = api.Arrival{Tick: uint64(i), Byte: byte(i)}
	}
	c, o := made(t, l)
	for i := range uint64(maxInput) {
		wantRead(t, c, o)
		upBoth(t, c, o, i)
		w, err := c.Read(data)
		if w != uint32(i) || err != api.OK {
			t.Fatalf("%d %v, want %d", w, err, i)
		}
		o.readData()
		wantSeen(t, c, o)
	}
	wantRead(t, c, o)
	wantRead(t, c, o)
}

// P12.1: Read(4): with and without a byte, with and without Over; it changes nothing.
func TestReadStatus(t *testing.T) {
	c, o := made(t, allAt(room+1, 1))
	for _, s := range []struct {
		do   func()
		want uint32
	}{
		{func() {}, 0},
		{func() { upBoth(t, c, o, 1) }, 3},
		{func() { writeBoth(t, c, o, status, 0) }, 1},
		{func() { wantDrained(t, c, o) }, 0},
	} {
		s.do()
		for range 3 {
			if w, err := c.Read(status); w != s.want || err != api.OK {
				t.Fatalf("%d %v, want %d", w, err, s.want)
			}
			wantSeen(t, c, o)
		}
	}
	c, o = made(t, allAt(room+1, 1))
	upBoth(t, c, o, 1)
	wantDrained(t, c, o)
	if w, err := c.Read(status); w != 2 || err != api.OK {
		t.Fatalf("%d %v, want 2", w, err)
	}
}

// P12.1: Write(0, w): the lowest 8 bits go out.
func TestWriteData(t *testing.T) {
	c, o := made(t, nil)
	words := []uint32{0, 1, 0x7f, 0x80, 0xff, 0x100, 0x141, 0xffff, 0x10000, 0xffffff00, 0xffffff41, 0x80000000, 0x8000007f, math.MaxUint32}
	for _, w := range words {
		writeBoth(t, c, o, data, w)
	}
	want := []byte{0, 1, 0x7f, 0x80, 0xff, 0, 0x41, 0xff, 0, 0, 0x41, 0, 0x7f, 0xff}
	if got := c.Out(); !bytes.Equal(got, want) {
		t.Fatalf("%d, want %d", got, want)
	}
	for b := range uint32(256) {
		writeBoth(t, c, o, data, b|0xabcd00)
	}
}

// P12.1: Write(0, w): there is no limit to what goes out, and what comes in is not touched.
func TestWriteMuch(t *testing.T) {
	c, o := made(t, allAt(room+4, 1))
	c.Up(1)
	o.up(1)
	for i := range uint32(5000) {
		if err := c.Write(data, i*3); err != api.OK {
			t.Fatal(err)
		}
		o.out = append(o.out, byte(i*3))
	}
	wantSeen(t, c, o)
	wantDrained(t, c, o)
}

// P12.1: Write(4, w): Over is taken back, whatever is written; nothing else happens, and it can be set anew.
func TestWriteStatus(t *testing.T) {
	for _, w := range []uint32{0, 1, 2, 3, 0xff, 0x100, 0x80000000, math.MaxUint32} {
		c, o := made(t, append(allAt(room+2, 1), at(5)...))
		writeBoth(t, c, o, status, w)
		upBoth(t, c, o, 1)
		writeBoth(t, c, o, data, 7)
		for range 2 {
			writeBoth(t, c, o, status, w)
			if c.Over() || len(c.Waits()) != room || c.Came() != room+2 {
				t.Fatalf("Write(4, %#x): over %v, %d wait, %d came", w, c.Over(), len(c.Waits()), c.Came())
			}
		}
		upBoth(t, c, o, 5)
		if !c.Over() {
			t.Fatal("Over is not set anew")
		}
	}
}

// P12.1: Read(reg), Write(reg, w): other registers are ErrFault, and nothing changes.
func TestOtherRegisters(t *testing.T) {
	c, o := made(t, append(allAt(room+2, 1), at(5)...))
	upBoth(t, c, o, 1)
	writeBoth(t, c, o, data, 'q')
	for _, reg := range otherRegs {
		if w, err := c.Read(reg); w != 0 || err != api.ErrFault {
			t.Errorf("Read(%d): %d %v", reg, w, err)
		}
		wantSeen(t, c, o)
		for _, w := range []uint32{0, 65, math.MaxUint32} {
			if err := c.Write(reg, w); err != api.ErrFault {
				t.Errorf("Write(%d, %d): %v", reg, w, err)
			}
			wantSeen(t, c, o)
		}
	}
	wantDrained(t, c, o)
}

// P12.2: Out(), Waits(): what was handed out is the asker's own.
func TestHandedOut(t *testing.T) {
	c, o := made(t, append(allAt(5, 1), at(2, 3)...))
	upBoth(t, c, o, 1)
	for i := range uint32(5) {
		writeBoth(t, c, o, data, i+65)
	}
	out, waits := c.Out(), c.Waits()
	keptOut, keptWaits := append([]byte{}, out...), append([]byte{}, waits...)
	upBoth(t, c, o, 2)
	wantRead(t, c, o)
	writeBoth(t, c, o, data, 90)
	if !bytes.Equal(out, keptOut) || !bytes.Equal(waits, keptWaits) {
		t.Fatalf("changed behind: %d %d", out, waits)
	}
	for _, l := range [][]byte{out, waits, c.Out(), c.Waits()} {
		l = l[:cap(l)]
		for i := range l {
			l[i] = 255
		}
	}
	wantSeen(t, c, o)
	first, second := c.Out(), c.Out()
	_ = append(first, 1)
	_ = append(second, 2)
	writeBoth(t, c, o, data, 91)
	upBoth(t, c, o, 3)
	wantDrained(t, c, o)
}

// P12.1, P12.2: of nil.
func TestNil(t *testing.T) {
	var c *Console
	c.Up(0)
	c.Up(greatest)
	for _, reg := range append([]int{data, status}, otherRegs...) {
		if w, err := c.Read(reg); w != 0 || err != api.ErrFault {
			t.Errorf("Read(%d): %d %v", reg, w, err)
		}
		if err := c.Write(reg, 65); err != api.ErrFault {
			t.Errorf("Write(%d): %v", reg, err)
		}
	}
	if c.Ready() || c.Over() || c.Came() != 0 || len(c.Out()) != 0 || len(c.Waits()) != 0 {
		t.Error("of nil not nothing")
	}
	if tick, is := c.Next(); tick != 0 || is {
		t.Errorf("Next: %d %v", tick, is)
	}
}

// P12.1: a console that New did not make has no arrivals.
func TestUnmade(t *testing.T) {
	c, o := &Console{}, modelOf(nil)
	wantSeen(t, c, o)
	upBoth(t, c, o, greatest)
	wantRead(t, c, o)
	writeBoth(t, c, o, data, 65)
	writeBoth(t, c, o, status, 65)
}

// P12.3: up to one tick, and then to another one, against up to the latter at once.
func TestUpInTwo(t *testing.T) {
	lists := [][]api.Arrival{nil, at(3), at(1, 1, 2, 5), rising(40), append(allAt(room, 2), at(6, 6, 9)...), append(rising(10), allAt(room, 20)...)}
	for _, l := range lists {
		for tick := range uint64(44) {
			for before := range tick + 2 {
				c, o := made(t, l)
				upBoth(t, c, o, before)
				upBoth(t, c, o, tick)
				d, p := made(t, l)
				upBoth(t, d, p, max(before, tick))
				wantSeen(t, c, p)
				wantDrained(t, c, p)
				wantDrained(t, d, o)
			}
		}
	}
}

// P12.3: up to each tick, one behind the other, with writes between, against up to the last one at once.
func TestUpInMany(t *testing.T) {
	for n := range 40 {
		c, o := made(t, rising(n))
		d, p := made(t, rising(n))
		for tick := range uint64(40) {
			upBoth(t, c, o, tick)
			writeBoth(t, c, o, data, uint32(tick))
			writeBoth(t, d, p, data, uint32(tick))
		}
		upBoth(t, d, p, 39)
		wantSeen(t, c, p)
		wantDrained(t, c, p)
	}
}

// P12.4: what is read, and waits, and was lost, is what came, and in order.
func TestWhatCame(t *testing.T) {
	for seed := range uint32(60) {
		state := seed*2654435761 + 1
		next := func(n uint32) uint32 {
			state = state*1664525 + 1013904223
			return (state >> 8) % n
		}
		l := make([]api.Arrival, maxInput)
		tick := uint64(0)
		for i := range l {
			tick += uint64(next(1 + seed%5))
			l[i] = api.Arrival{Tick: tick, Byte: byte(next(256))}
		}
		c, o := made(t, l)
		var taken []byte
		now := uint64(0)
		for range 400 {
			switch next(5) {
			case 0, 1:
				now += uint64(next(12))
				upBoth(t, c, o, now)
			case 2:
				was := c.Ready()
				want := o.readData()
				w, err := c.Read(data)
				if w != want || err != api.OK {
					t.Fatalf("read %d %v, want %d", w, err, want)
				}
				if was {
					taken = append(taken, byte(w))
				}
			case 3:
				writeBoth(t, c, o, data, next(1<<20))
			case 4:
				writeBoth(t, c, o, status, next(4))
			}
			wantSeen(t, c, o)
			wantWhole(t, l[:c.Came()], append(append([]byte{}, taken...), c.Waits()...), o.lost)
		}
	}
}

// wantWhole holds what came against what was kept, in order, and what was lost, in order, laid into one another.
func wantWhole(t *testing.T, came []api.Arrival, kept, lost []byte) {
	t.Helper()
	if len(kept)+len(lost) != len(came) {
		t.Fatalf("%d kept and %d lost of %d", len(kept), len(lost), len(came))
	}
	// fits[k] tells whether the first k that were kept, and the others lost, are those that came so far.
	fits := map[int]bool{0: true}
	for i, a := range came {
		then := map[int]bool{}
		for k := range fits {
			if k < len(kept) && kept[k] == a.Byte {
				then[k+1] = true
			}
			if i-k < len(lost) && lost[i-k] == a.Byte {
				then[k] = true
			}
		}
		fits = then
	}
	if !fits[len(kept)] {
		t.Fatal("what was kept and lost is not what came, in order")
	}
}
