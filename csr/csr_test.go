package csr

import (
	"math"
	"math/big"
	"testing"

	"mimesis/api"
)

// The document's numbers, told anew.
const (
	greatest = math.MaxUint64
	halfOver = 1 << 32
	calls    = 0x344
)

// keptRegisters are those that are kept: which bits are, which are set whatever is written, and the place in a file.
var keptRegisters = []struct {
	name        string
	number      int
	kept, fixed uint32
	place       func(*api.Csrs) *uint32
}{
	{"mstatus", 0x300, 0x88, 0x1800, func(k *api.Csrs) *uint32 { return &k.Status }},
	{"mie", 0x304, 0x888, 0, func(k *api.Csrs) *uint32 { return &k.Ie }},
	{"mtvec", 0x305, 0xfffffffd, 0, func(k *api.Csrs) *uint32 { return &k.Tvec }},
	{"mscratch", 0x340, 0xffffffff, 0, func(k *api.Csrs) *uint32 { return &k.Scratch }},
	{"mepc", 0x341, 0xfffffffc, 0, func(k *api.Csrs) *uint32 { return &k.Epc }},
	{"mcause", 0x342, 0xffffffff, 0, func(k *api.Csrs) *uint32 { return &k.Cause }},
	{"mtval", 0x343, 0xffffffff, 0, func(k *api.Csrs) *uint32 { return &k.Tval }},
}

// countedRegisters are those that have half of a counted number.
var countedRegisters = []struct {
	name         string
	number       int
	of           func(File, Env) uint64
	upper        bool
	mayBeWritten bool
}{
	{"mcycle", 0xb00, cycleOf, false, true},
	{"minstret", 0xb02, instretOf, false, true},
	{"mcycleh", 0xb80, cycleOf, true, true},
	{"minstreth", 0xb82, instretOf, true, true},
	{"cycle", 0xc00, cycleOf, false, false},
	{"time", 0xc01, timeOf, false, false},
	{"instret", 0xc02, instretOf, false, false},
	{"cycleh", 0xc80, cycleOf, true, false},
	{"timeh", 0xc81, timeOf, true, false},
	{"instreth", 0xc82, instretOf, true, false},
}

// fixedRegisters are those that have the same word always.
var fixedRegisters = []struct {
	name         string
	number       int
	word         uint32
	mayBeWritten bool
}{
	{"misa", 0x301, 0x40001100, true},
	{"mvendorid", 0xf11, 0, false},
	{"marchid", 0xf12, 0, false},
	{"mimpid", 0xf13, 0, false},
	{"mhartid", 0xf14, 0, false},
}

// allRegisters answers the numbers of all there are.
func allRegisters() []int {
	l := []int{calls}
	for _, r := range keptRegisters {
		l = append(l, r.number)
	}
	for _, r := range countedRegisters {
		l = append(l, r.number)
	}
	for _, r := range fixedRegisters {
		l = append(l, r.number)
	}
	return l
}

func isRegister(number int) bool {
	for _, n := range allRegisters() {
		if n == number {
			return true
		}
	}
	return false
}

// edges are numbers of 64 bits at which halves, signs and the whole end, with halves that differ.
var edges = []uint64{
	0, 1, 2, 90, 1<<31 - 1, 1 << 31, 1<<32 - 2, 1<<32 - 1, 1 << 32, 1<<32 + 1, 1<<33 - 1,
	0x89abcdef_01234567, 0x01234567_89abcdef, 0xffffffff_00000000, 0xfffffffe_ffffffff,
	1<<63 - 1, 1 << 63, 1<<63 + 1, greatest - 1<<32, greatest - 1, greatest,
}

// few are edges enough to be laid against each other by fives.
var few = []uint64{0, 1, 1<<32 - 1, 1 << 32, 0x89abcdef_01234567, 1 << 63, greatest}

// words are edges, each single bit, and words with all kinds of bits.
func words() []uint32 {
	l := []uint32{
		0, 1, 0x88, 0x888, 0x1800, 0x1888, 0xffffe777, 0xfffff777, 0x40001100, 0x55555555, 0xaaaaaaaa,
		0x12345678, 0x89abcdef, 0x7fffffff, 0x80000000, 0x80000003, 0x8000000b, 0xfffffffe, 0xffffffff,
	}
	for bit := range 32 {
		l = append(l, 1<<bit, ^uint32(1<<bit))
	}
	return l
}

// rest answers a number's rest by 2^64, of one below 0 too.
func rest(n *big.Int) uint64 {
	over := new(big.Int).Lsh(big.NewInt(1), 64)
	return new(big.Int).Mod(n, over).Uint64()
}

// sum and less answer the rest of a sum and of a difference, reckoned in numbers without bounds.
func sum(a, b uint64) uint64 {
	return rest(new(big.Int).Add(new(big.Int).SetUint64(a), new(big.Int).SetUint64(b)))
}

func less(a, b uint64) uint64 {
	return rest(new(big.Int).Sub(new(big.Int).SetUint64(a), new(big.Int).SetUint64(b)))
}

func cycleOf(f File, v Env) uint64 {
	return sum(v.Tick, f.Cycles)
}

func instretOf(f File, v Env) uint64 {
	return sum(v.Retired, f.Instrs)
}

func timeOf(_ File, v Env) uint64 {
	return v.Time
}

// halfOf answers one of a number's halves, by quotient and rest.
func halfOf(n uint64, upper bool) uint32 {
	if upper {
		return uint32(n / halfOver)
	}
	return uint32(n % halfOver)
}

// withHalf answers n with one of its halves being w.
func withHalf(n uint64, w uint32, upper bool) uint64 {
	if upper {
		return uint64(w)*halfOver + n%halfOver
	}
	return n/halfOver*halfOver + uint64(w)
}

// legalOf answers what a register that is kept has of w, bit by bit.
func legalOf(kept, fixed, w uint32) uint32 {
	n := uint32(0)
	for bit := range 32 {
		p := uint32(1) << bit
		if fixed&p != 0 || kept&p != 0 && w&p != 0 {
			n += p
		}
	}
	return n
}

// readOf is what is read, told anew.
func readOf(f File, number int, v Env) (uint32, api.Errno) {
	if number == calls {
		return v.Calls, api.OK
	}
	for _, r := range keptRegisters {
		if r.number == number {
			return *r.place(&f.Kept), api.OK
		}
	}
	for _, r := range countedRegisters {
		if r.number == number {
			return halfOf(r.of(f, v), r.upper), api.OK
		}
	}
	for _, r := range fixedRegisters {
		if r.number == number {
			return r.word, api.OK
		}
	}
	return 0, api.ErrNone
}

// writtenOf is the file behind a word being written, told anew.
func writtenOf(f File, number int, w uint32, v Env) (File, api.Errno) {
	switch number {
	case calls, 0x301:
		return f, api.OK
	case 0xb00, 0xb80:
		f.Cycles = less(withHalf(cycleOf(f, v), w, number == 0xb80), sum(v.Tick, 1))
		return f, api.OK
	case 0xb02, 0xb82:
		f.Instrs = less(withHalf(instretOf(f, v), w, number == 0xb82), sum(v.Retired, 1))
		return f, api.OK
	}
	for _, r := range keptRegisters {
		if r.number == number {
			*r.place(&f.Kept) = legalOf(r.kept, r.fixed, w)
			return f, api.OK
		}
	}
	if isRegister(number) {
		return File{}, api.ErrOp
	}
	return File{}, api.ErrNone
}

// wantRead reads, and holds the answer, and that the file is as it was, against the words.
func wantRead(t *testing.T, f File, number int, v Env) {
	t.Helper()
	was := f
	want, wantErr := readOf(f, number, v)
	if w, err := f.Read(number, v); w != want || err != wantErr {
		t.Fatalf("Read(%#x) of %+v in %+v: %#x %v, want %#x %v", number, f, v, w, err, want, wantErr)
	}
	if f != was {
		t.Fatalf("Read(%#x) made %+v of %+v", number, f, was)
	}
}

// wantWritten writes, holds the answer, and that the file handed in is as it was, against the words,
// and answers the file behind it.
func wantWritten(t *testing.T, f File, number int, w uint32, v Env) File {
	t.Helper()
	was := f
	want, wantErr := writtenOf(f, number, w, v)
	got, err := f.Write(number, w, v)
	if got != want || err != wantErr {
		t.Fatalf("Write(%#x, %#x) to %+v in %+v: %+v %v, want %+v %v", number, w, f, v, got, err, want, wantErr)
	}
	if f != was {
		t.Fatalf("Write(%#x, %#x) made %+v of %+v", number, w, f, was)
	}
	return got
}

// wantSeen reads every register.
func wantSeen(t *testing.T, f File, v Env) {
	t.Helper()
	for _, number := range allRegisters() {
		wantRead(t, f, number, v)
	}
}

// differing answers a file no two parts of which are alike, and none of which is as at first; what is kept is legal.
func differing() File {
	return File{
		Kept: api.Csrs{
			Status: 0x1888, Ie: 0x880, Tvec: 0x80000101, Scratch: 0x12345678, Epc: 0x80000204, Cause: 0x8000000b, Tval: 0xdeadbeef,
		},
		Cycles: 0x11111111_22222222,
		Instrs: 0x33333333_44444444,
	}
}

// files answers files of all kinds; what is kept in some of them is not legal.
func files() []File {
	all := uint32(0xffffffff)
	return []File{
		New(), {}, differing(),
		{Kept: api.Csrs{Status: all, Ie: all, Tvec: all, Scratch: all, Epc: all, Cause: all, Tval: all}, Cycles: greatest, Instrs: greatest},
		{Kept: api.Csrs{Status: 1, Ie: 2, Tvec: 3, Scratch: 4, Epc: 5, Cause: 6, Tval: 7}, Cycles: 1<<32 - 1, Instrs: 1 << 32},
		{Kept: api.Csrs{Status: 1 << 31, Ie: 1 << 30, Tvec: 1 << 29, Scratch: 1 << 28, Epc: 1 << 27, Cause: 1 << 26, Tval: 1 << 25}, Cycles: 1 << 63, Instrs: 1<<63 - 1},
	}
}

// surroundings answers envs of all kinds.
func surroundings() []Env {
	return []Env{
		{},
		{Tick: 100, Retired: 90, Time: 1<<33 + 5, Calls: 0x80},
		{Tick: 0x55555555_66666666, Retired: 0x77777777_88888888, Time: 0x9999aaaa_bbbbcccc, Calls: 0x888},
		{Tick: greatest, Retired: greatest, Time: greatest, Calls: 0xffffffff},
		{Tick: 1<<32 - 1, Retired: 1<<32 - 2, Time: 1 << 32, Calls: 8},
		{Tick: greatest - 1<<32, Retired: 1 << 63, Time: 1<<63 - 1, Calls: 0x800},
	}
}

// numbersOfAll are those from -1 to 4096, those about them, the ends of int, and numbers of which the lowest
// bits alone, or all but the sign, are a register's.
func numbersOfAll() []int {
	l := []int{math.MinInt, math.MinInt + 1, math.MinInt32, math.MaxInt32, math.MaxInt - 1, math.MaxInt}
	for n := -300; n <= 8300; n++ {
		l = append(l, n)
	}
	for _, r := range allRegisters() {
		for _, shift := range []int{12, 13, 16, 31, 32, 48, 62} {
			l = append(l, r+1<<shift, r-1<<shift)
		}
		l = append(l, r+math.MinInt, -r, ^r)
	}
	return l
}

// numbersInRow answers numbers one behind the other that spread over all 64 bits; small ones and edges among them.
func numbersInRow(seed uint64) func() uint64 {
	return func() uint64 {
		seed = seed*6364136223846793005 + 1442695040888963407
		n := seed ^ seed>>29
		switch n >> 32 % 4 {
		case 0:
			return edges[n%uint64(len(edges))]
		case 1:
			return n % 64
		case 2:
			return n << 32
		}
		return n
	}
}

// P16.1: the tables of the tests have all 23 registers, each once.
func TestTablesAreWhole(t *testing.T) {
	count := map[int]int{}
	for _, number := range allRegisters() {
		count[number]++
	}
	if len(allRegisters()) != 23 || len(count) != 23 {
		t.Fatalf("%d, %d of them once", len(allRegisters()), len(count))
	}
}

// P16.1: New(): the kept registers 0, but Status 0x1800; both offsets 0.
func TestNew(t *testing.T) {
	want := File{Kept: api.Csrs{Status: 0x1800, Ie: 0, Tvec: 0, Scratch: 0, Epc: 0, Cause: 0, Tval: 0}, Cycles: 0, Instrs: 0}
	if got := New(); got != want {
		t.Fatalf("%+v, want %+v", got, want)
	}
}

// P16.1: each register of a new file, by words written out.
func TestReadOfANewFile(t *testing.T) {
	want := map[int][2]uint32{
		0x300: {0x1800, 0x1800}, 0x301: {0x40001100, 0x40001100}, 0x304: {0, 0}, 0x305: {0, 0},
		0x340: {0, 0}, 0x341: {0, 0}, 0x342: {0, 0}, 0x343: {0, 0}, 0x344: {0, 0x888},
		0xb00: {0, 2}, 0xb02: {0, 4}, 0xb80: {0, 1}, 0xb82: {0, 3},
		0xc00: {0, 2}, 0xc01: {0, 6}, 0xc02: {0, 4}, 0xc80: {0, 1}, 0xc81: {0, 5}, 0xc82: {0, 3},
		0xf11: {0, 0}, 0xf12: {0, 0}, 0xf13: {0, 0}, 0xf14: {0, 0},
	}
	if len(want) != 23 {
		t.Fatalf("%d registers", len(want))
	}
	for i, v := range []Env{{}, {Tick: 1<<32 + 2, Retired: 3<<32 + 4, Time: 5<<32 + 6, Calls: 0x888}} {
		for number, words := range want {
			if w, err := New().Read(number, v); w != words[i] || err != api.OK {
				t.Errorf("Read(%#x) in %+v: %#x %v, want %#x", number, v, w, err, words[i])
			}
		}
	}
}

// P16.1: Read: ErrNone and 0 just where there is no such register.
func TestReadOfEachNumber(t *testing.T) {
	found := 0
	for _, number := range numbersOfAll() {
		for _, f := range []File{New(), differing()} {
			for _, v := range surroundings()[:3] {
				wantRead(t, f, number, v)
			}
		}
		if _, err := New().Read(number, Env{}); err == api.OK {
			found++
		}
	}
	if found != 23 {
		t.Errorf("%d registers are read", found)
	}
}

// P16.1: Write: ErrNone and the zero file just where there is no such register; ErrOp and the zero file
// of those that are there and can't be written.
func TestWriteOfEachNumber(t *testing.T) {
	var found, refused int
	for _, number := range numbersOfAll() {
		for _, f := range []File{New(), differing()} {
			for _, v := range surroundings()[:3] {
				wantWritten(t, f, number, 0x89abcdef, v)
			}
		}
		switch _, err := New().Write(number, 0, Env{}); err {
		case api.OK:
			found++
		case api.ErrOp:
			refused++
		}
	}
	if found != 13 || refused != 10 {
		t.Errorf("%d registers are written, %d can't be", found, refused)
	}
}

// P16.1: ErrNone ahead of ErrOp, by numbers written out: those that can't be written by their bits are none first.
func TestErrorsInOrder(t *testing.T) {
	for _, k := range []struct {
		number          int
		onRead, onWrite api.Errno
	}{
		{0xc00, api.OK, api.ErrOp}, {0xc01, api.OK, api.ErrOp}, {0xc02, api.OK, api.ErrOp},
		{0xc80, api.OK, api.ErrOp}, {0xc81, api.OK, api.ErrOp}, {0xc82, api.OK, api.ErrOp},
		{0xf11, api.OK, api.ErrOp}, {0xf12, api.OK, api.ErrOp}, {0xf13, api.OK, api.ErrOp}, {0xf14, api.OK, api.ErrOp},
		{0xc03, api.ErrNone, api.ErrNone}, {0xc83, api.ErrNone, api.ErrNone}, {0xbff, api.ErrNone, api.ErrNone},
		{0xcff, api.ErrNone, api.ErrNone}, {0xd00, api.ErrNone, api.ErrNone}, {0xf10, api.ErrNone, api.ErrNone},
		{0xf15, api.ErrNone, api.ErrNone}, {0xfff, api.ErrNone, api.ErrNone}, {0x1c00, api.ErrNone, api.ErrNone},
		{-1, api.ErrNone, api.ErrNone}, {math.MinInt, api.ErrNone, api.ErrNone}, {math.MaxInt, api.ErrNone, api.ErrNone},
		{0, api.ErrNone, api.ErrNone}, {0x180, api.ErrNone, api.ErrNone}, {0x302, api.ErrNone, api.ErrNone},
		{0x303, api.ErrNone, api.ErrNone}, {0x306, api.ErrNone, api.ErrNone}, {0x345, api.ErrNone, api.ErrNone},
		{0xb01, api.ErrNone, api.ErrNone}, {0xb03, api.ErrNone, api.ErrNone}, {0xb81, api.ErrNone, api.ErrNone},
		{4096, api.ErrNone, api.ErrNone}, {4096 + 0x300, api.ErrNone, api.ErrNone}, {1<<32 + 0x300, api.ErrNone, api.ErrNone},
		{math.MinInt + 0x300, api.ErrNone, api.ErrNone}, {0x300, api.OK, api.OK}, {0x344, api.OK, api.OK}, {0x301, api.OK, api.OK},
		{0xb00, api.OK, api.OK}, {0xb82, api.OK, api.OK},
	} {
		v := surroundings()[2]
		w, err := differing().Read(k.number, v)
		if err != k.onRead || err != api.OK && w != 0 {
			t.Errorf("Read(%#x): %#x %v, want %v", k.number, w, err, k.onRead)
		}
		for _, word := range words() {
			f, err := differing().Write(k.number, word, v)
			if err != k.onWrite || err != api.OK && f != (File{}) {
				t.Errorf("Write(%#x, %#x): %+v %v, want %v", k.number, word, f, err, k.onWrite)
			}
		}
	}
}

// P16.1: each kept register, out of a file of which all differ, by words written out.
func TestReadOfKeptByNumbers(t *testing.T) {
	want := map[int]uint32{
		0x300: 0x1888, 0x304: 0x880, 0x305: 0x80000101, 0x340: 0x12345678, 0x341: 0x80000204, 0x342: 0x8000000b, 0x343: 0xdeadbeef,
	}
	for _, v := range surroundings() {
		for number, word := range want {
			if w, err := differing().Read(number, v); w != word || err != api.OK {
				t.Errorf("Read(%#x) in %+v: %#x %v, want %#x", number, v, w, err, word)
			}
		}
	}
}

// P16.1: a kept register is read as it is in the file, in whatever it is asked, each bit of it, one that is not legal too.
func TestReadOfKept(t *testing.T) {
	for _, r := range keptRegisters {
		for _, w := range words() {
			for _, f := range files() {
				*r.place(&f.Kept) = w
				for _, v := range surroundings() {
					if got, err := f.Read(r.number, v); got != w || err != api.OK {
						t.Fatalf("Read of %s in %+v: %#x %v, want %#x", r.name, v, got, err, w)
					}
				}
				wantSeen(t, f, surroundings()[2])
			}
		}
	}
}

// P16.1: of mip is read what calls, whatever that and the file are.
func TestReadOfCalls(t *testing.T) {
	for _, w := range words() {
		for _, f := range files() {
			for _, v := range surroundings() {
				v.Calls = w
				if got, err := f.Read(calls, v); got != w || err != api.OK {
					t.Fatalf("Read of mip of %+v in %+v: %#x %v", f, v, got, err)
				}
			}
		}
	}
}

// P16.1: the halves of mcycle, minstret and of the time, by numbers written out.
func TestReadOfCountedByNumbers(t *testing.T) {
	for _, k := range []struct {
		count, offset uint64
		low, high     uint32
	}{
		{0, 0, 0, 0}, {1, 0, 1, 0}, {0, 1, 1, 0}, {100, 23, 123, 0},
		{1<<32 - 1, 0, 0xffffffff, 0}, {1<<32 - 1, 1, 0, 1}, {1, 1<<32 - 1, 0, 1}, {1 << 32, 0, 0, 1}, {1<<32 - 1, 1<<32 - 1, 0xfffffffe, 1},
		{1<<63 - 1, 1, 0, 0x80000000}, {1 << 63, 1 << 63, 0, 0}, {1 << 63, 1<<63 - 1, 0xffffffff, 0xffffffff},
		{greatest, 0, 0xffffffff, 0xffffffff}, {greatest, 1, 0, 0}, {1, greatest, 0, 0}, {0, greatest, 0xffffffff, 0xffffffff},
		{greatest, 2, 1, 0}, {greatest, greatest, 0xfffffffe, 0xffffffff}, {greatest, 1<<32 + 1, 0, 1},
		{0x01234567_89abcdef, 0x11111111_11111111, 0x9abcdf00, 0x12345678}, {0xffffffff_00000000, 0xffffffff, 0xffffffff, 0xffffffff},
	} {
		f := File{Cycles: k.offset, Instrs: k.offset}
		v := Env{Tick: k.count, Retired: k.count, Time: k.count + k.offset}
		for _, number := range []int{0xb00, 0xb02, 0xc00, 0xc01, 0xc02} {
			if w, err := f.Read(number, v); w != k.low || err != api.OK {
				t.Errorf("Read(%#x) of %+v in %+v: %#x %v, want %#x", number, f, v, w, err, k.low)
			}
		}
		for _, number := range []int{0xb80, 0xb82, 0xc80, 0xc81, 0xc82} {
			if w, err := f.Read(number, v); w != k.high || err != api.OK {
				t.Errorf("Read(%#x) of %+v in %+v: %#x %v, want %#x", number, f, v, w, err, k.high)
			}
		}
	}
}

// P16.1: each edge alone, as a tick, as how many retired, as the time, as each offset.
func TestReadOfCountedOneByOne(t *testing.T) {
	for _, n := range edges {
		for _, f := range files() {
			for _, v := range surroundings() {
				tick, retired, time, cycles, instrs := v, v, v, f, f
				tick.Tick, retired.Retired, time.Time, cycles.Cycles, instrs.Instrs = n, n, n, n, n
				wantSeen(t, f, tick)
				wantSeen(t, f, retired)
				wantSeen(t, f, time)
				wantSeen(t, cycles, v)
				wantSeen(t, instrs, v)
			}
		}
	}
}

// P16.1: edges laid against each other, all of them together.
func TestReadOfCountedTogether(t *testing.T) {
	for _, tick := range few {
		for _, retired := range few {
			for _, time := range few {
				for _, cycles := range few {
					for _, instrs := range few {
						v := Env{Tick: tick, Retired: retired, Time: time, Calls: 0x80}
						for _, r := range countedRegisters {
							wantRead(t, File{Cycles: cycles, Instrs: instrs}, r.number, v)
						}
					}
				}
			}
		}
	}
}

// P16.1: registers that are fixed, whatever the file is and what it is asked in.
func TestReadOfFixed(t *testing.T) {
	for _, r := range fixedRegisters {
		for _, f := range files() {
			for _, v := range surroundings() {
				if w, err := f.Read(r.number, v); w != r.word || err != api.OK {
					t.Errorf("Read of %s of %+v in %+v: %#x %v, want %#x", r.name, f, v, w, err, r.word)
				}
			}
		}
	}
}

// P16.1: Write of registers that can't be written: ErrOp and the zero file.
func TestWriteOfWhatCannotBe(t *testing.T) {
	var l []int
	for _, r := range countedRegisters {
		if !r.mayBeWritten {
			l = append(l, r.number)
		}
	}
	for _, r := range fixedRegisters {
		if !r.mayBeWritten {
			l = append(l, r.number)
		}
	}
	if len(l) != 10 {
		t.Fatalf("%d of them", len(l))
	}
	for _, number := range l {
		for _, w := range words() {
			for _, f := range files() {
				for _, v := range surroundings() {
					if got, err := f.Write(number, w, v); got != (File{}) || err != api.ErrOp {
						t.Fatalf("Write(%#x, %#x) to %+v: %+v %v", number, w, f, got, err)
					}
				}
			}
		}
	}
}

// P16.1: Write of kept registers, by words written out.
func TestWriteOfKeptByNumbers(t *testing.T) {
	for _, k := range []struct {
		number  int
		w, want uint32
	}{
		{0x300, 0, 0x1800}, {0x300, 1, 0x1800}, {0x300, 8, 0x1808}, {0x300, 0x80, 0x1880}, {0x300, 0x88, 0x1888}, {0x300, 0x1800, 0x1800}, {0x300, 1 << 31, 0x1800}, {0x300, 0xffffffff, 0x1888},
		{0x304, 0, 0}, {0x304, 1, 0}, {0x304, 0x88, 0x88}, {0x304, 0x800, 0x800}, {0x304, 0x1800, 0x800}, {0x304, 1 << 31, 0}, {0x304, 0xffffffff, 0x888},
		{0x305, 0, 0}, {0x305, 1, 1}, {0x305, 2, 0}, {0x305, 3, 1}, {0x305, 0x88, 0x88}, {0x305, 1 << 31, 1 << 31}, {0x305, 0xffffffff, 0xfffffffd},
		{0x340, 0, 0}, {0x340, 1, 1}, {0x340, 0x1800, 0x1800}, {0x340, 1 << 31, 1 << 31}, {0x340, 0xffffffff, 0xffffffff},
		{0x341, 0, 0}, {0x341, 1, 0}, {0x341, 3, 0}, {0x341, 4, 4}, {0x341, 0x88, 0x88}, {0x341, 1 << 31, 1 << 31}, {0x341, 0xffffffff, 0xfffffffc},
		{0x342, 0, 0}, {0x342, 1, 1}, {0x342, 0x8000000b, 0x8000000b}, {0x342, 1 << 31, 1 << 31}, {0x342, 0xffffffff, 0xffffffff},
		{0x343, 0, 0}, {0x343, 1, 1}, {0x343, 0x89abcdef, 0x89abcdef}, {0x343, 1 << 31, 1 << 31}, {0x343, 0xffffffff, 0xffffffff},
	} {
		for _, v := range surroundings() {
			want := differing()
			for _, r := range keptRegisters {
				if r.number == k.number {
					*r.place(&want.Kept) = k.want
				}
			}
			if got, err := differing().Write(k.number, k.w, v); got != want || err != api.OK {
				t.Errorf("Write(%#x, %#x): %+v %v, want %+v", k.number, k.w, got, err, want)
			}
		}
	}
}

// P16.1: Write of a kept register: what is legal of the word, and no other change of the file, what is not legal in it too.
func TestWriteOfKept(t *testing.T) {
	for _, r := range keptRegisters {
		for _, w := range words() {
			for _, f := range files() {
				for _, v := range surroundings() {
					got := wantWritten(t, f, r.number, w, v)
					*r.place(&got.Kept) = *r.place(&f.Kept)
					if got != f {
						t.Fatalf("Write of %s changed more: %+v, was %+v", r.name, got, f)
					}
				}
			}
		}
	}
}

// P16.1: Write of mcycle's and minstret's halves, by numbers written out: the offset behind it.
func TestWriteOfCountedByNumbers(t *testing.T) {
	for _, k := range []struct {
		count, offset uint64
		upper         bool
		w             uint32
		want          uint64 // the offset behind it
	}{
		{0, 0, false, 0, greatest}, {0, 0, false, 1, 0}, {0, 0, false, 1000, 999}, {0, 0, false, 0xffffffff, 1<<32 - 2},
		{0, 0, true, 0, greatest}, {0, 0, true, 1, 1<<32 - 1}, {0, 0, true, 0xffffffff, greatest - 1<<32},
		{90, 0, false, 1000, 909}, {90, 10, false, 1000, 909}, {90, 10, true, 0, 9}, {90, 10, true, 2, 2<<32 + 9},
		{1<<32 - 1, 0, false, 5, greatest - 1<<32 + 6}, {1<<32 - 1, 0, true, 0, greatest}, {1<<32 - 1, 0, true, 1, 1<<32 - 1},
		{1<<32 - 1, 1, false, 7, 7}, {1<<32 - 1, 1, true, 0, greatest - 1<<32 + 1}, {1<<32 - 1, 1, true, 9, 8 << 32},
		{greatest, 0, false, 0, 0xffffffff_00000000}, {greatest, 0, true, 0, 0xffffffff}, {greatest, 0, true, 0xffffffff, greatest},
		{greatest, 1, false, 6, 6}, {greatest, 1, true, 6, 6 << 32}, {greatest, 1, false, 0, 0}, {greatest - 1, 1, false, 0xffffffff, 0},
		{1 << 63, 1 << 63, false, 0, 1<<63 - 1}, {1 << 63, 1 << 63, true, 0x80000000, greatest},
	} {
		cycles, instrs := differing(), differing()
		cycles.Cycles, instrs.Instrs = k.offset, k.offset
		cycle, instret := 0xb00, 0xb02
		if k.upper {
			cycle, instret = 0xb80, 0xb82
		}
		want := cycles
		want.Cycles = k.want
		if got, err := cycles.Write(cycle, k.w, Env{Tick: k.count, Retired: 7, Time: 8, Calls: 9}); got != want || err != api.OK {
			t.Errorf("%+v: Write(%#x): %+v %v, want %+v", k, cycle, got, err, want)
		}
		want = instrs
		want.Instrs = k.want
		if got, err := instrs.Write(instret, k.w, Env{Tick: 7, Retired: k.count, Time: 8, Calls: 9}); got != want || err != api.OK {
			t.Errorf("%+v: Write(%#x): %+v %v, want %+v", k, instret, got, err, want)
		}
	}
}

// next answers what a file is asked in at the next tick, with one more retired.
func next(v Env) Env {
	return Env{Tick: sum(v.Tick, 1), Retired: sum(v.Retired, 1), Time: v.Time ^ 0x5555, Calls: ^v.Calls}
}

// wantNext writes a half, and holds all of what is read at the next tick against the words: the half that was written,
// the other one as it was, the other number one further, all kept registers as they were.
func wantNext(t *testing.T, f File, number int, w uint32, v Env) {
	t.Helper()
	got := wantWritten(t, f, number, w, v)
	if got.Kept != f.Kept {
		t.Fatalf("Write(%#x, %#x) to %+v: %+v", number, w, f, got)
	}
	cycle, instret := sum(cycleOf(f, v), 1), sum(instretOf(f, v), 1)
	switch number {
	case 0xb00, 0xb80:
		cycle = withHalf(cycleOf(f, v), w, number == 0xb80)
	case 0xb02, 0xb82:
		instret = withHalf(instretOf(f, v), w, number == 0xb82)
	}
	for _, k := range []struct {
		low, high int
		want      uint64
	}{{0xb00, 0xb80, cycle}, {0xc00, 0xc80, cycle}, {0xb02, 0xb82, instret}, {0xc02, 0xc82, instret}} {
		low, errLow := got.Read(k.low, next(v))
		high, errHigh := got.Read(k.high, next(v))
		if low != halfOf(k.want, false) || high != halfOf(k.want, true) || errLow != api.OK || errHigh != api.OK {
			t.Fatalf("Write(%#x, %#x) to %+v in %+v, then %#x: %#x %#x, want %#x", number, w, f, v, k.low, high, low, k.want)
		}
	}
}

// P16.1, P16.2: Write of halves of mcycle and minstret at edges laid against each other.
func TestWriteOfCounted(t *testing.T) {
	for _, number := range []int{0xb00, 0xb02, 0xb80, 0xb82} {
		for _, count := range edges {
			for _, offset := range edges {
				for _, w := range []uint32{0, 1, 0x88, 0x1800, 0x7fffffff, 0x80000000, 0x89abcdef, 0xfffffffe, 0xffffffff} {
					f := differing()
					f.Cycles, f.Instrs = offset, ^offset
					wantNext(t, f, number, w, Env{Tick: count, Retired: count ^ 0xffff, Time: 3, Calls: 0x88})
					f.Cycles, f.Instrs = offset^0xffff0000, offset
					wantNext(t, f, number, w, Env{Tick: ^count, Retired: count, Time: greatest, Calls: 0})
				}
			}
		}
	}
}

// P16.1: a half that is written is told by its own count alone.
func TestWriteOfCountedInOtherSurroundings(t *testing.T) {
	for _, f := range files() {
		for _, v := range surroundings() {
			for _, other := range edges {
				a, b := v, v
				a.Retired, a.Time, a.Calls = other, ^other, uint32(other)
				b.Tick, b.Time, b.Calls = other, ^other, uint32(other)
				for _, number := range []int{0xb00, 0xb80} {
					if wantWritten(t, f, number, 0x1234, a) != wantWritten(t, f, number, 0x1234, v) {
						t.Fatalf("Write(%#x) to %+v is not the same in %+v and %+v", number, f, a, v)
					}
				}
				for _, number := range []int{0xb02, 0xb82} {
					if wantWritten(t, f, number, 0x1234, b) != wantWritten(t, f, number, 0x1234, v) {
						t.Fatalf("Write(%#x) to %+v is not the same in %+v and %+v", number, f, b, v)
					}
				}
			}
		}
	}
}

// P16.1: Write of mip and of misa: OK, and the file as it was.
func TestWriteOfOthersDoesNothing(t *testing.T) {
	for _, number := range []int{calls, 0x301} {
		for _, w := range words() {
			for _, f := range files() {
				for _, v := range surroundings() {
					if got, err := f.Write(number, w, v); got != f || err != api.OK {
						t.Fatalf("Write(%#x, %#x) to %+v: %+v %v", number, w, f, got, err)
					}
				}
			}
		}
	}
}

// P16.1: a file that is handed in, and what it is asked in, stay as they were; the files behind it go their own ways.
func TestFileHandedInStays(t *testing.T) {
	for _, number := range allRegisters() {
		f, v := differing(), surroundings()[2]
		behind, _ := f.Write(number, 0x76543210, v)
		again, _ := f.Write(number, 0x76543210, v)
		if behind != again {
			t.Errorf("Write(%#x): %+v, then %+v", number, behind, again)
		}
		if _, err := behind.Write(0x340, 1, v); err != api.OK {
			t.Errorf("Write to the file behind it: %v", err)
		}
		if f != differing() || v != surroundings()[2] || behind != again {
			t.Errorf("Write(%#x) changed what was handed in: %+v %+v", number, f, v)
		}
	}
}

// P16.2: what is legal is read as it was written: of kept registers at once, of counted ones at the next tick.
func TestWhatIsLegalIsReadAsItWasWritten(t *testing.T) {
	take := numbersInRow(16)
	for range 3000 {
		f := File{
			Kept: api.Csrs{
				Status: uint32(take()), Ie: uint32(take()), Tvec: uint32(take()), Scratch: uint32(take()),
				Epc: uint32(take()), Cause: uint32(take()), Tval: uint32(take()),
			},
			Cycles: take(), Instrs: take(),
		}
		v := Env{Tick: take(), Retired: take(), Time: take(), Calls: uint32(take())}
		for _, r := range keptRegisters {
			w := legalOf(r.kept, r.fixed, uint32(take()))
			behind, err := f.Write(r.number, w, v)
			if err != api.OK {
				t.Fatalf("Write of %s: %v", r.name, err)
			}
			for _, at := range []Env{v, next(v), {}} {
				if got, err := behind.Read(r.number, at); got != w || err != api.OK {
					t.Fatalf("%s: %#x was written to %+v, %#x %v is read", r.name, w, f, got, err)
				}
			}
		}
		for _, r := range countedRegisters {
			w := uint32(take())
			behind, err := f.Write(r.number, w, v)
			if !r.mayBeWritten {
				continue
			}
			if err != api.OK {
				t.Fatalf("Write of %s: %v", r.name, err)
			}
			if got, err := behind.Read(r.number, next(v)); got != w || err != api.OK {
				t.Fatalf("%s: %#x was written to %+v in %+v, %#x %v is read", r.name, w, f, v, got, err)
			}
			wantNext(t, f, r.number, w, v)
		}
	}
}

// P16.2: both halves of a number, written at ticks one behind the other, are read at the tick behind that.
func TestBothHalvesWritten(t *testing.T) {
	for _, first := range []bool{false, true} {
		for _, n := range few {
			for _, f := range files() {
				for _, v := range surroundings() {
					for _, k := range [][2]int{{0xb00, 0xb80}, {0xb02, 0xb82}} {
						one, two := k[0], k[1]
						if first {
							one, two = two, one
						}
						g := wantWritten(t, f, one, halfOf(n, first), v)
						g = wantWritten(t, g, two, halfOf(n, !first), next(v))
						low, _ := g.Read(k[0], next(next(v)))
						high, _ := g.Read(k[1], next(next(v)))
						if low != halfOf(n, false) || high != halfOf(n, true) {
							t.Fatalf("%#x: %#x was written, %#x %#x is read", k, n, high, low)
						}
					}
				}
			}
		}
	}
}

// P16.1, P16.2: long rows of writes to one file, all of which is read behind each.
func TestLongRows(t *testing.T) {
	registers := allRegisters()
	for seed := range uint64(20) {
		take := numbersInRow(seed)
		f := New()
		v := Env{Tick: take(), Retired: take(), Time: take()}
		for range 300 {
			number := registers[take()%uint64(len(registers))]
			behind := wantWritten(t, f, number, uint32(take()), v)
			if _, err := f.Write(number, 0, v); err == api.OK {
				f = behind
			}
			if take()%16 == 0 {
				v = Env{Tick: take(), Retired: take(), Time: take()}
			}
			v.Calls = uint32(take())
			wantSeen(t, f, v)
			v = next(v)
		}
	}
}
