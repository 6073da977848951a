package ram

import (
	"bytes"
	"math"
	"testing"

	"mimesis/api"
)

// base is wide, so that what the tests reckon of addresses can't wrap round.
const base = uint64(api.RamBase)

// model is a memory told anew: bytes by their addresses, one at a time.
type model struct {
	size    int
	bytes   map[uint64]byte
	watched map[int]bool
	gens    map[int]uint64
}

func newModel(size int) *model {
	return &model{size, map[uint64]byte{}, map[int]bool{}, map[int]uint64{}}
}

func (o *model) has(addr uint64) bool {
	return addr >= base && addr < base+uint64(o.size)
}

// error answers what a load or a store must answer; it asks for every address by itself.
func (o *model) error(addr uint32, n int) api.Errno {
	if n != 1 && n != 2 && n != 4 {
		return api.ErrShape
	}
	if int64(addr)%int64(n) != 0 {
		return api.ErrOdd
	}
	for i := range n {
		if !o.has(uint64(addr) + uint64(i)) {
			return api.ErrFault
		}
	}
	return api.OK
}

func (o *model) load(addr uint32, n int) uint32 {
	var w uint32
	for i := n - 1; i >= 0; i-- {
		w = w*256 + uint32(o.bytes[uint64(addr)+uint64(i)])
	}
	return w
}

// store answers whether it hits.
func (o *model) store(addr uint32, n int, w uint32) bool {
	for i := range n {
		o.bytes[uint64(addr)+uint64(i)] = byte(w)
		w /= 256
	}
	page := int((uint64(addr) - base) / 64)
	hit := o.watched[page]
	if hit {
		o.watched[page] = false
		o.gens[page]++
	}
	return hit
}

func (o *model) fill(addr uint32, b []byte) {
	for i, x := range b {
		o.bytes[uint64(addr)+uint64(i)] = x
	}
}

func (o *model) all() []byte {
	var out []byte
	for i := range o.size {
		out = append(out, o.bytes[base+uint64(i)])
	}
	return out
}

// wantSame holds all that can be seen of a memory against the model.
func wantSame(t *testing.T, m *Ram, o *model) {
	t.Helper()
	if m.Size() != o.size {
		t.Fatalf("Size: %d, want %d", m.Size(), o.size)
	}
	if got, want := m.Bytes(), o.all(); !bytes.Equal(got, want) {
		t.Fatalf("Bytes: %x, want %x", got, want)
	}
	for p := range o.size / 64 {
		if got := m.Watched(p); got != o.watched[p] {
			t.Fatalf("Watched(%d): %v", p, got)
		}
		if got := m.Gen(p); got != o.gens[p] {
			t.Fatalf("Gen(%d): %d, want %d", p, got, o.gens[p])
		}
	}
}

func newRam(t *testing.T, n int) *Ram {
	t.Helper()
	m, err := New(n)
	if m == nil || err != api.OK {
		t.Fatalf("New(%d): %v %v", n, m, err)
	}
	return m
}

// mixed answers n bytes of which no two neighbours are alike, and none is 0.
func mixed(n int) []byte {
	out := make([]byte, n)
	for i := range out {
		out[i] = byte(i*7%251 + 3)
	}
	return out
}

// filled answers a memory of mixed bytes, and its model.
func filled(t *testing.T, n int) (*Ram, *model) {
	t.Helper()
	m, o := newRam(t, n), newModel(n)
	if err := m.Fill(api.RamBase, mixed(n)); err != api.OK {
		t.Fatalf("Fill: %v", err)
	}
	o.fill(api.RamBase, mixed(n))
	return m, o
}

func watchAll(t *testing.T, m *Ram, o *model) {
	t.Helper()
	for p := range o.size / 64 {
		if err := m.Watch(p); err != api.OK {
			t.Fatalf("Watch(%d): %v", p, err)
		}
		o.watched[p] = true
	}
}

// farInts are numbers that no size, width, count or page may be.
func farInts() []int {
	return []int{math.MinInt, math.MinInt + 1, math.MinInt + 64, math.MinInt32 - 1, math.MinInt32, -65536, -129, -128, -64, -33, -4, -3, -2, -1, math.MaxInt32, math.MaxInt32 + 1, math.MaxUint32 - 63, math.MaxUint32, math.MaxUint32 + 2, math.MaxInt - 63, math.MaxInt - 1, math.MaxInt}
}

// addresses are the ends of a memory of some bytes, what is about them, the ends of all addresses, and those that differ from a memory's in one bit.
func addresses(size int) []uint32 {
	var out []uint32
	end := uint32(api.RamBase + size)
	for d := uint32(0); d < 9; d++ {
		out = append(out, d, math.MaxUint32-d, api.RamBase-1-d, api.RamBase+d, end-1-d, end+d, 0x7fffff00+d, 0xfffeffff+d, 64+d)
	}
	for bit := range 32 {
		out = append(out, api.RamBase^1<<bit, (end-4)^1<<bit)
	}
	return out
}

// P10.1
func TestNewAtEachSize(t *testing.T) {
	made := 0
	for n := -300; n <= api.MaxRam+300; n++ {
		m, err := New(n)
		if n >= 64 && n <= 65536 && n%64 == 0 {
			made++
			if m == nil || err != api.OK || m.Size() != n {
				t.Fatalf("New(%d): %v, size %d", n, err, m.Size())
			}
		} else if m != nil || err != api.ErrRange {
			t.Fatalf("New(%d): %v %v", n, m, err)
		}
	}
	if made != 1024 {
		t.Errorf("%d sizes", made)
	}
	for _, n := range append(farInts(), 1<<17, 1<<31, 1<<32, 1<<32+64, 1<<62) {
		if m, err := New(n); m != nil || err != api.ErrRange {
			t.Errorf("New(%d): %v %v", n, m, err)
		}
	}
}

// P10.1
func TestNewMemoryIsEmpty(t *testing.T) {
	for _, n := range []int{64, 128, 192, 4096, 65472, 65536} {
		wantSame(t, newRam(t, n), newModel(n))
	}
}

// P10.1
func TestMemoriesAreApart(t *testing.T) {
	first, o := filled(t, 128)
	watchAll(t, first, o)
	second := newRam(t, 128)
	wantSame(t, second, newModel(128))
	if hit, err := second.Store(api.RamBase, 4, 0xffffffff); hit || err != api.OK {
		t.Errorf("Store: %v %v", hit, err)
	}
	wantSame(t, first, o)
}

// P10.1
func TestHas(t *testing.T) {
	for _, size := range []int{64, 128, 65536} {
		m := newRam(t, size)
		counts := append(farInts(), 0, 1, 2, 3, 4, 5, 8, 9, 63, 64, 65, size-9, size-8, size-1, size, size+1, size+64)
		for _, addr := range addresses(size) {
			for _, n := range counts {
				left := int64(base) + int64(size) - int64(addr)
				want := n > 0 && uint64(addr) >= base && int64(n) <= left
				if got := m.Has(addr, n); got != want {
					t.Errorf("size %d: Has(%#x, %d): %v", size, addr, n, got)
				}
			}
		}
	}
}

// P10.1
func TestHasAtTheEnds(t *testing.T) {
	m := newRam(t, 128)
	for _, c := range []struct {
		addr uint32
		n    int
		want bool
	}{
		{api.RamBase, 128, true},
		{api.RamBase, 129, false},
		{api.RamBase, 0, false},
		{api.RamBase, -1, false},
		{api.RamBase, math.MaxInt, false},
		{api.RamBase - 1, 1, false},
		{api.RamBase - 1, 2, false},
		{api.RamBase + 1, 127, true},
		{api.RamBase + 1, 128, false},
		{api.RamBase + 127, 1, true},
		{api.RamBase + 127, 2, false},
		{api.RamBase + 127, math.MaxInt, false},
		{api.RamBase + 128, 1, false},
		{api.RamBase + 128, 0, false},
		{api.RamBase + 129, -1, false},
		{0, 1, false},
		{math.MaxUint32, 1, false},
		{math.MaxUint32, 2, false},
		{math.MaxUint32, math.MaxInt, false},
	} {
		if got := m.Has(c.addr, c.n); got != c.want {
			t.Errorf("Has(%#x, %d): %v", c.addr, c.n, got)
		}
	}
}

// P10.1
func TestPage(t *testing.T) {
	for _, size := range []int{64, 128, 192, 65536} {
		m, o := newRam(t, size), newModel(size)
		for _, addr := range addresses(size) {
			want := -1
			if o.has(uint64(addr)) {
				want = int((uint64(addr) - base) / 64)
			}
			if got := m.Page(addr); got != want {
				t.Errorf("size %d: Page(%#x): %d, want %d", size, addr, got, want)
			}
		}
		for i := range size {
			if got := m.Page(api.RamBase + uint32(i)); got != i/64 {
				t.Fatalf("size %d: Page of byte %d: %d", size, i, got)
			}
		}
	}
}

// P10.1
func TestBytesAreNewMemory(t *testing.T) {
	for _, size := range []int{64, 128, 192, 65536} {
		m, o := filled(t, size)
		watchAll(t, m, o)
		first, second := m.Bytes(), m.Bytes()
		clear(first)
		if !bytes.Equal(second, o.all()) {
			t.Errorf("size %d: two answers share memory", size)
		}
		wantSame(t, m, o)
		before := o.all()
		if _, err := m.Store(api.RamBase+4, 4, 0); err != api.OK {
			t.Error(err)
		}
		if !bytes.Equal(second, before) {
			t.Errorf("size %d: a store changed what was answered ahead of it", size)
		}
	}
}

// P10.2
func TestLoadAtEachAddress(t *testing.T) {
	const size = 192
	m, o := filled(t, size)
	watchAll(t, m, o)
	for addr := uint32(api.RamBase - 9); addr < api.RamBase+size+9; addr++ {
		for _, n := range []int{1, 2, 4} {
			wantErr, want := o.error(addr, n), uint32(0)
			if wantErr == api.OK {
				want = o.load(addr, n)
			}
			if got, err := m.Load(addr, n); got != want || err != wantErr {
				t.Errorf("Load(%#x, %d): %#x %v, want %#x %v", addr, n, got, err, want, wantErr)
			}
		}
	}
	wantSame(t, m, o)
}

// P10.2
func TestStoreAtEachAddress(t *testing.T) {
	const size = 192
	for _, watched := range []bool{false, true} {
		for addr := uint32(api.RamBase - 5); addr < api.RamBase+size+5; addr++ {
			for _, n := range []int{1, 2, 4} {
				m, o := filled(t, size)
				if watched {
					watchAll(t, m, o)
				}
				wantErr, want := o.error(addr, n), false
				if wantErr == api.OK {
					want = o.store(addr, n, 0xf1e2d300)
				}
				if got, err := m.Store(addr, n, 0xf1e2d300); got != want || err != wantErr {
					t.Errorf("Store(%#x, %d): %v %v, want %v %v", addr, n, got, err, want, wantErr)
				}
				wantSame(t, m, o)
			}
		}
	}
}

// P10.2
func TestLowestBytesAreStored(t *testing.T) {
	for _, c := range []struct {
		n    int
		want []byte
	}{
		{1, []byte{0xd4, 9, 9, 9}},
		{2, []byte{0xd4, 0xc3, 9, 9}},
		{4, []byte{0xd4, 0xc3, 0xb2, 0xa1}},
	} {
		m := newRam(t, 64)
		if err := m.Fill(api.RamBase+60, []byte{9, 9, 9, 9}); err != api.OK {
			t.Fatal(err)
		}
		if _, err := m.Store(api.RamBase+60, c.n, 0xa1b2c3d4); err != api.OK {
			t.Fatal(err)
		}
		if got := m.Bytes()[60:]; !bytes.Equal(got, c.want) {
			t.Errorf("Store of %d: %x, want %x", c.n, got, c.want)
		}
	}
	m := newRam(t, 64)
	if err := m.Fill(api.RamBase, []byte{0xff, 0xfe, 0xfd, 0xfc}); err != api.OK {
		t.Fatal(err)
	}
	for n, want := range map[int]uint32{1: 0xff, 2: 0xfeff, 4: 0xfcfdfeff} {
		if got, err := m.Load(api.RamBase, n); got != want || err != api.OK {
			t.Errorf("Load of %d: %#x %v, want %#x", n, got, err, want)
		}
	}
}

// wantRefused asks that a load and a store both answer an error, and that nothing comes of them.
func wantRefused(t *testing.T, m *Ram, addr uint32, n int, want api.Errno) {
	t.Helper()
	if got, err := m.Load(addr, n); got != 0 || err != want {
		t.Errorf("Load(%#x, %d): %#x %v, want 0 %v", addr, n, got, err, want)
	}
	if hit, err := m.Store(addr, n, 0x5a5a5a5a); hit || err != want {
		t.Errorf("Store(%#x, %d): %v %v, want %v", addr, n, hit, err, want)
	}
}

// P10.2
func TestWidthsThatThereAreNot(t *testing.T) {
	m, o := filled(t, 128)
	watchAll(t, m, o)
	widths := append(farInts(), 0, 3, 5, 6, 7, 8, 12, 16, 32, 64, 128, 256, 257, 1<<32+1, 1<<32+4)
	for _, n := range widths {
		// The address may be right, odd, or not there: the width is asked for first.
		for _, addr := range []uint32{api.RamBase, api.RamBase + 1, api.RamBase + 64, api.RamBase + 128, 0, 1, math.MaxUint32} {
			wantRefused(t, m, addr, n, api.ErrShape)
		}
	}
	wantSame(t, m, o)
}

// P10.2
func TestOddComesAheadOfFault(t *testing.T) {
	m, o := filled(t, 128)
	watchAll(t, m, o)
	for _, c := range []struct {
		addr uint32
		n    int
		want api.Errno
	}{
		{api.RamBase + 1, 2, api.ErrOdd},
		{api.RamBase + 1, 4, api.ErrOdd},
		{api.RamBase + 2, 4, api.ErrOdd},
		{api.RamBase + 3, 4, api.ErrOdd},
		{api.RamBase + 126, 4, api.ErrOdd},
		{api.RamBase + 127, 2, api.ErrOdd},
		{api.RamBase + 129, 2, api.ErrOdd},
		{api.RamBase + 130, 4, api.ErrOdd},
		{api.RamBase - 1, 2, api.ErrOdd},
		{api.RamBase - 1, 4, api.ErrOdd},
		{api.RamBase - 2, 4, api.ErrOdd},
		{1, 2, api.ErrOdd},
		{2, 4, api.ErrOdd},
		{math.MaxUint32, 2, api.ErrOdd},
		{math.MaxUint32, 4, api.ErrOdd},
		{math.MaxUint32 - 1, 4, api.ErrOdd},
		{math.MaxUint32, 1, api.ErrFault},
		{math.MaxUint32 - 1, 2, api.ErrFault},
		{math.MaxUint32 - 3, 4, api.ErrFault},
		{api.RamBase + 128, 1, api.ErrFault},
		{api.RamBase + 128, 2, api.ErrFault},
		{api.RamBase + 128, 4, api.ErrFault},
		{api.RamBase - 1, 1, api.ErrFault},
		{api.RamBase - 2, 2, api.ErrFault},
		{api.RamBase - 4, 4, api.ErrFault},
		{0, 1, api.ErrFault},
		{0, 2, api.ErrFault},
		{0, 4, api.ErrFault},
	} {
		wantRefused(t, m, c.addr, c.n, c.want)
	}
	wantSame(t, m, o)
}

// P10.2
func TestAccessesFarAway(t *testing.T) {
	for _, size := range []int{64, 65536} {
		m, o := newRam(t, size), newModel(size)
		watchAll(t, m, o)
		for _, addr := range addresses(size) {
			for _, n := range []int{1, 2, 4} {
				if want := o.error(addr, n); want != api.OK {
					wantRefused(t, m, addr, n, want)
				} else if got, err := m.Load(addr, n); got != 0 || err != api.OK {
					t.Errorf("Load(%#x, %d): %#x %v", addr, n, got, err)
				}
			}
		}
		wantSame(t, m, o)
	}
}

// P10.2, P10.3
func TestStoreHitsOnce(t *testing.T) {
	m, o := newRam(t, 256), newModel(256)
	watchAll(t, m, o)
	for round := range uint64(5) {
		for _, p := range []int{2, 0, 3, 1} {
			addr := api.RamBase + uint32(64*p)
			if hit, err := m.Store(addr+63, 1, 7); !hit || err != api.OK {
				t.Errorf("page %d: %v %v", p, hit, err)
			}
			if m.Watched(p) || m.Gen(p) != round+1 {
				t.Errorf("page %d: %v, generation %d", p, m.Watched(p), m.Gen(p))
			}
			// No more watched, and so not hit.
			if hit, err := m.Store(addr, 4, 7); hit || err != api.OK {
				t.Errorf("page %d again: %v %v", p, hit, err)
			}
			if m.Watched(p) || m.Gen(p) != round+1 {
				t.Errorf("page %d again: %v, generation %d", p, m.Watched(p), m.Gen(p))
			}
		}
		watchAll(t, m, o)
	}
}

// P10.2
func TestStoreHitsItsPageAlone(t *testing.T) {
	for p := range 4 {
		m, o := newRam(t, 256), newModel(256)
		watchAll(t, m, o)
		// What is stored is there already: a store hits whatever it changes.
		if hit, err := m.Store(api.RamBase+uint32(64*p), 4, 0); !hit || err != api.OK {
			t.Errorf("page %d: %v %v", p, hit, err)
		}
		o.watched[p], o.gens[p] = false, 1
		wantSame(t, m, o)
	}
	m, o := newRam(t, 256), newModel(256)
	o.watched[2] = true
	if err := m.Watch(2); err != api.OK {
		t.Fatal(err)
	}
	for _, i := range []uint32{0, 63, 64, 124, 127, 192, 255} {
		hit, err := m.Store(api.RamBase+i, 1, 5)
		if hit || err != api.OK {
			t.Errorf("byte %d: %v %v", i, hit, err)
		}
		o.store(api.RamBase+i, 1, 5)
	}
	wantSame(t, m, o)
}

// P10.2
func TestFillAtEachPlace(t *testing.T) {
	const size = 192
	b := mixed(size + 1)
	for i := range b {
		b[i] ^= 0x80
	}
	for _, n := range []int{1, 2, 3, 4, 5, 63, 64, 65, 127, 128, 129, 191, 192, 193} {
		for i := range size + 2 {
			m, o := filled(t, size)
			watchAll(t, m, o)
			addr, want := api.RamBase+uint32(i), api.ErrFault
			if i+n <= size {
				o.fill(addr, b[:n])
				want = api.OK
			}
			if err := m.Fill(addr, b[:n]); err != want {
				t.Errorf("Fill of %d at byte %d: %v, want %v", n, i, err, want)
			}
			wantSame(t, m, o)
		}
	}
}

// P10.2
func TestFillFarAway(t *testing.T) {
	for _, size := range []int{64, 65536} {
		m, o := newRam(t, size), newModel(size)
		for _, addr := range addresses(size) {
			for _, n := range []int{1, 2, size, size + 1, 1 << 17} {
				if o.has(uint64(addr)) && o.has(uint64(addr)+uint64(n)-1) {
					continue
				}
				if err := m.Fill(addr, bytes.Repeat([]byte{1}, n)); err != api.ErrFault {
					t.Errorf("Fill of %d at %#x: %v", n, addr, err)
				}
			}
		}
		wantSame(t, m, o)
	}
}

// P10.2
func TestFillOfNoByte(t *testing.T) {
	m, o := filled(t, 128)
	watchAll(t, m, o)
	for _, addr := range addresses(128) {
		for _, b := range [][]byte{nil, {}, mixed(4)[:0]} {
			if err := m.Fill(addr, b); err != api.OK {
				t.Errorf("Fill of no byte at %#x: %v", addr, err)
			}
		}
	}
	wantSame(t, m, o)
}

// P10.2
func TestFillTheGreatestMemory(t *testing.T) {
	m, o := filled(t, api.MaxRam)
	wantSame(t, m, o)
	if x, err := m.Load(api.RamBase+api.MaxRam-4, 4); x != o.load(api.RamBase+api.MaxRam-4, 4) || err != api.OK {
		t.Errorf("Load of the last word: %#x %v", x, err)
	}
}

// P10.2
func TestFilledBytesStayTheCallers(t *testing.T) {
	m, o := newRam(t, 128), newModel(128)
	room := mixed(100)
	part := room[:70]
	if err := m.Fill(api.RamBase+30, part); err != api.OK {
		t.Fatal(err)
	}
	o.fill(api.RamBase+30, part)
	if !bytes.Equal(room, mixed(100)) {
		t.Errorf("Fill changed what was handed in")
	}
	clear(room)
	wantSame(t, m, o)
	if _, err := m.Store(api.RamBase+32, 4, 0xffffffff); err != api.OK {
		t.Fatal(err)
	}
	if !bytes.Equal(room, make([]byte, 100)) {
		t.Errorf("a store changed what was handed in")
	}
}

// P10.3
func TestWatch(t *testing.T) {
	for _, size := range []int{64, 128, 65536} {
		m, o := newRam(t, size), newModel(size)
		last := size/64 - 1
		for _, p := range []int{last, 0, last / 2, last, 0} {
			if err := m.Watch(p); err != api.OK {
				t.Errorf("size %d: Watch(%d): %v", size, p, err)
			}
			o.watched[p] = true
			wantSame(t, m, o)
		}
	}
}

// P10.3
func TestWatchedTwiceIsHitOnce(t *testing.T) {
	m := newRam(t, 64)
	for range 2 {
		if err := m.Watch(0); err != api.OK {
			t.Error(err)
		}
	}
	for i, want := range []bool{true, false, false} {
		if hit, err := m.Store(api.RamBase+8, 4, 1); hit != want || err != api.OK {
			t.Errorf("store %d: %v %v", i, hit, err)
		}
	}
	if m.Gen(0) != 1 {
		t.Errorf("generation %d", m.Gen(0))
	}
}

// P10.3
func TestPagesThatThereAreNot(t *testing.T) {
	for _, size := range []int{64, 128, 65536} {
		m, o := filled(t, size)
		watchAll(t, m, o)
		for i := range size / 64 {
			o.store(api.RamBase+uint32(64*i), 1, 1)
			if hit, err := m.Store(api.RamBase+uint32(64*i), 1, 1); !hit || err != api.OK {
				t.Fatalf("page %d: %v %v", i, hit, err)
			}
		}
		for _, p := range append(farInts(), size/64, size/64+1, 1024, 1025, 1<<32) {
			if p >= 0 && p < size/64 {
				continue
			}
			if err := m.Watch(p); err != api.ErrFault {
				t.Errorf("Watch(%d): %v", p, err)
			}
			if m.Watched(p) || m.Gen(p) != 0 {
				t.Errorf("page %d: %v, generation %d", p, m.Watched(p), m.Gen(p))
			}
		}
		wantSame(t, m, o)
	}
}

// wantNothing asks a memory without any address for each function's answer.
func wantNothing(t *testing.T, m *Ram) {
	t.Helper()
	if m.Size() != 0 || len(m.Bytes()) != 0 {
		t.Errorf("size %d, bytes %x", m.Size(), m.Bytes())
	}
	for _, addr := range addresses(64) {
		for _, n := range []int{math.MinInt, -1, 0, 1, 64, math.MaxInt} {
			if m.Has(addr, n) {
				t.Errorf("Has(%#x, %d)", addr, n)
			}
		}
		if p := m.Page(addr); p != -1 {
			t.Errorf("Page(%#x): %d", addr, p)
		}
	}
	for _, p := range append(farInts(), 0, 1) {
		if m.Watched(p) || m.Gen(p) != 0 {
			t.Errorf("page %d: %v, generation %d", p, m.Watched(p), m.Gen(p))
		}
	}
}

// P10.1, P10.2, P10.3
func TestNilMemory(t *testing.T) {
	var m *Ram
	wantNothing(t, m)
	for _, addr := range addresses(64) {
		for _, n := range []int{math.MinInt, -1, 0, 1, 2, 3, 4, math.MaxInt} {
			wantRefused(t, m, addr, n, api.ErrShape)
		}
		for _, b := range [][]byte{nil, {}, {1}, mixed(65)} {
			if err := m.Fill(addr, b); err != api.ErrShape {
				t.Errorf("Fill of %d: %v", len(b), err)
			}
		}
	}
	for _, p := range append(farInts(), 0, 1) {
		if err := m.Watch(p); err != api.ErrShape {
			t.Errorf("Watch(%d): %v", p, err)
		}
	}
}

// A memory that New did not make has no address: it is asked like any other, and none of its calls panics.
func TestMemoryThatNewDidNotMake(t *testing.T) {
	m := &Ram{}
	wantNothing(t, m)
	wantRefused(t, m, api.RamBase, 4, api.ErrFault)
	wantRefused(t, m, api.RamBase+1, 4, api.ErrOdd)
	wantRefused(t, m, api.RamBase, 3, api.ErrShape)
	if err := m.Fill(api.RamBase, []byte{1}); err != api.ErrFault {
		t.Errorf("Fill: %v", err)
	}
	if err := m.Watch(0); err != api.ErrFault {
		t.Errorf("Watch: %v", err)
	}
}

// row is a row of numbers that look mixed, the same ones each time.
type row struct{ x uint64 }

func (r *row) below(n int) int {
	r.x = r.x*6364136223846793005 + 1442695040888963407
	return int(r.x >> 33 % uint64(n))
}

// doOne does one thing to a memory and to its model, and holds the answers against each other.
func doOne(t *testing.T, r *row, m *Ram, o *model) {
	t.Helper()
	addr := uint32(api.RamBase - 4 + r.below(o.size+8))
	switch r.below(4) {
	case 0:
		p := r.below(o.size / 64)
		o.watched[p] = true
		if err := m.Watch(p); err != api.OK {
			t.Fatalf("Watch(%d): %v", p, err)
		}
	case 1:
		b := mixed(r.below(200) + 2)[r.below(3):]
		want := api.OK
		if len(b) > 0 && !(o.has(uint64(addr)) && o.has(uint64(addr)+uint64(len(b))-1)) {
			want = api.ErrFault
		} else {
			o.fill(addr, b)
		}
		if err := m.Fill(addr, b); err != want {
			t.Fatalf("Fill of %d at %#x: %v, want %v", len(b), addr, err, want)
		}
	default:
		n, w := r.below(6), uint32(r.below(1<<31))*2+1
		wantErr, want := o.error(addr, n), false
		if wantErr == api.OK {
			want = o.store(addr, n, w)
		}
		if hit, err := m.Store(addr, n, w); hit != want || err != wantErr {
			t.Fatalf("Store(%#x, %d): %v %v, want %v %v", addr, n, hit, err, want, wantErr)
		}
	}
}

// P10.4
func TestWhatWasStoredIsLoadedAndAllElseIsAsItWas(t *testing.T) {
	r := &row{1}
	for _, size := range []int{64, 128, 320} {
		m, o := newRam(t, size), newModel(size)
		for range 2000 {
			doOne(t, r, m, o)
			wantSame(t, m, o)
			at := uint32(api.RamBase + r.below(size)&^3)
			for _, n := range []int{1, 2, 4} {
				if got, err := m.Load(at, n); got != o.load(at, n) || err != api.OK {
					t.Fatalf("Load(%#x, %d): %#x %v, want %#x", at, n, got, err, o.load(at, n))
				}
			}
		}
	}
}

// P10.4
func TestStoredByOneWidthAndLoadedByAnother(t *testing.T) {
	for _, stored := range []int{1, 2, 4} {
		m := newRam(t, 128)
		for i := 0; i < 128; i += stored {
			w := uint32(i+1) * 0x01030507
			if _, err := m.Store(api.RamBase+uint32(i), stored, w); err != api.OK {
				t.Fatal(err)
			}
		}
		for _, loaded := range []int{1, 2, 4} {
			for i := 0; i < 128; i += loaded {
				var want uint32
				for j := range loaded {
					at := i + j
					first := at / stored * stored
					want |= uint32(first+1) * 0x01030507 >> (8 * (at - first)) & 0xff << (8 * j)
				}
				if got, err := m.Load(api.RamBase+uint32(i), loaded); got != want || err != api.OK {
					t.Errorf("stored by %d: Load of %d at byte %d: %#x %v, want %#x", stored, loaded, i, got, err, want)
				}
			}
		}
	}
}
