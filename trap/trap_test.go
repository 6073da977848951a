package trap

import (
	"fmt"
	"math"
	"testing"

	"mimesis/api"
)

// over is the number by which sums have their rest.
const over = 1 << 32

// edges are words at which signs, bits and the whole end.
var edges = []uint32{
	0, 1, 2, 3, 4, 7, 0x80, 0x88, 0x888, 0x1800, 0x1888, 0x7ffffffe, 0x7fffffff, 0x80000000, 0x80000001,
	0x80000101, 0x12345678, 0x89abcdef, 0x55555555, 0xaaaaaaaa, 0xfffffffc, 0xfffffffd, 0xfffffffe, 0xffffffff,
}

// words are edges, and each word with a single bit set, and not set.
func words() []uint32 {
	l := append([]uint32{}, edges...)
	for bit := range 32 {
		l = append(l, 1<<bit, ^uint32(1<<bit))
	}
	return l
}

// allCauses are those of package api, with the document's numbers and names.
var allCauses = []struct {
	given, number uint32
	name          string
}{
	{api.CauseJump, 0, "jump"},
	{api.CauseFetch, 1, "fetch"},
	{api.CauseIllegal, 2, "illegal"},
	{api.CauseBreak, 3, "break"},
	{api.CauseLoadOdd, 4, "load-odd"},
	{api.CauseLoad, 5, "load"},
	{api.CauseStoreOdd, 6, "store-odd"},
	{api.CauseStore, 7, "store"},
	{api.CauseCall, 11, "call"},
	{api.CauseSoft, 0x80000003, "soft"},
	{api.CauseTimer, 0x80000007, "timer"},
	{api.CauseExternal, 0x8000000b, "external"},
}

// some are causes of each kind: bit 31 set and not, with lowest bits from none to all.
func some() []uint32 {
	l := []uint32{
		0, 1, 2, 3, 7, 8, 11, 12, 63, 64, 1000, 1<<29 - 1, 1 << 29, 1<<29 + 1, 1<<30 - 1, 1 << 30, 1<<30 + 1,
		3 << 29, 1<<31 - 2, 1<<31 - 1, 0x12345678, 0x7edcba98,
	}
	for _, low := range l[:len(l):len(l)] {
		l = append(l, 1<<31|low)
	}
	return l
}

// row is a long row of numbers.
type row uint64

func (r *row) next() uint32 {
	*r = *r*6364136223846793005 + 1442695040888963407
	return uint32(*r >> 32)
}

// csrs answers any registers; those that traps look at are often of few bits.
func (r *row) csrs() api.Csrs {
	k := api.Csrs{Status: r.next(), Ie: r.next(), Tvec: r.next(), Scratch: r.next(), Epc: r.next(), Cause: r.next(), Tval: r.next()}
	if r.next()%2 == 0 {
		k.Status = 0x1800 | r.next()&0x88
		k.Ie &= 0x888
	}
	return k
}

// bits tells a word's bits, one by one, by their numbers.
func bits(w uint32) [32]bool {
	var l [32]bool
	for bit := range l {
		l[bit] = w%2 == 1
		w /= 2
	}
	return l
}

// word answers the word of those bits.
func word(l [32]bool) uint32 {
	w := uint64(0)
	for bit := range l {
		if l[bit] {
			w += uint64(math.Pow(2, float64(bit)))
		}
	}
	return uint32(w)
}

// trapped tells anew what Status is behind a trap.
func trapped(status uint32) uint32 {
	l := bits(status)
	l[7], l[3] = l[3], false
	return word(l)
}

// wentBack tells anew what Status is behind the way back.
func wentBack(status uint32) uint32 {
	l := bits(status)
	l[3], l[7] = l[7], true
	return word(l)
}

// goesOn tells anew where a trap goes on.
func goesOn(tvec, cause uint32) uint32 {
	at := uint64(tvec) - uint64(tvec)%4
	if cause >= 1<<31 && tvec%2 == 1 {
		at += 4 * uint64(cause-1<<31)
	}
	return uint32(at % over)
}

// heardOf tells anew who is heard.
func heardOf(k api.Csrs, calls uint32) (uint32, bool) {
	if !bits(k.Status)[3] {
		return 0, false
	}
	c, e := bits(calls), bits(k.Ie)
	for _, bit := range []uint32{11, 3, 7} {
		if c[bit] && e[bit] {
			return 1<<31 + bit, true
		}
	}
	return 0, false
}

// wakesOf tells anew whether anybody calls.
func wakesOf(k api.Csrs, calls uint32) bool {
	c, e := bits(calls), bits(k.Ie)
	return c[3] && e[3] || c[7] && e[7] || c[11] && e[11]
}

func checkEnter(t *testing.T, k api.Csrs, pc, cause, tval uint32) {
	t.Helper()
	ahead := k
	got, at := Enter(k, pc, cause, tval)
	want := api.Csrs{Status: trapped(k.Status), Ie: k.Ie, Tvec: k.Tvec, Scratch: k.Scratch, Epc: pc, Cause: cause, Tval: tval}
	if got != want || at != goesOn(k.Tvec, cause) {
		t.Fatalf("Enter(%x, %x, %x, %x) = %x, %x; want %x, %x", k, pc, cause, tval, got, at, want, goesOn(k.Tvec, cause))
	}
	if k != ahead {
		t.Fatalf("Enter changed %x to %x", ahead, k)
	}
}

func checkReturn(t *testing.T, k api.Csrs) {
	t.Helper()
	ahead := k
	want := k
	want.Status = wentBack(k.Status)
	if got, at := Return(k); got != want || at != k.Epc {
		t.Fatalf("Return(%x) = %x, %x; want %x, %x", k, got, at, want, k.Epc)
	}
	if k != ahead {
		t.Fatalf("Return changed %x to %x", ahead, k)
	}
}

func checkCalls(t *testing.T, k api.Csrs, calls uint32) {
	t.Helper()
	ahead := k
	want, is := heardOf(k, calls)
	if got, ok := Heard(k, calls); got != want || ok != is {
		t.Fatalf("Heard(%x, %x) = %x, %v; want %x, %v", k, calls, got, ok, want, is)
	}
	if got := Wakes(k, calls); got != wakesOf(k, calls) {
		t.Fatalf("Wakes(%x, %x) = %v", k, calls, got)
	}
	if k != ahead {
		t.Fatalf("a question changed %x to %x", ahead, k)
	}
}

// full are registers that all differ, so that none goes into another's place unseen.
var full = api.Csrs{Status: 0x1808, Ie: 0x880, Tvec: 0x80000040, Scratch: 0x5c5c5c5c, Epc: 0x80000020, Cause: 5, Tval: 0x40000003}

// P17.1: a trap, told by hand.
func TestEnterByHand(t *testing.T) {
	got, at := Enter(full, 0x80000010, api.CauseLoad, 0x12345679)
	want := api.Csrs{Status: 0x1880, Ie: 0x880, Tvec: 0x80000040, Scratch: 0x5c5c5c5c, Epc: 0x80000010, Cause: 5, Tval: 0x12345679}
	if got != want || at != 0x80000040 {
		t.Errorf("a load: %x, %x", got, at)
	}
	got, at = Enter(got, 0x80000044, api.CauseIllegal, 0xffffffff)
	want = api.Csrs{Status: 0x1800, Ie: 0x880, Tvec: 0x80000040, Scratch: 0x5c5c5c5c, Epc: 0x80000044, Cause: 2, Tval: 0xffffffff}
	if got != want || at != 0x80000040 {
		t.Errorf("a trap in a trap: %x, %x", got, at)
	}
	got, at = Enter(api.Csrs{}, 0, 0, 0)
	if got != (api.Csrs{}) || at != 0 {
		t.Errorf("of noughts: %x, %x", got, at)
	}
}

// P17.1: Status by hand: none of its bits, those of traps, all.
func TestStatusByHand(t *testing.T) {
	for _, c := range []struct{ ahead, behindTrap, behindReturn uint32 }{
		{0, 0, 0x80},
		{0x08, 0x80, 0x80},
		{0x80, 0, 0x88},
		{0x88, 0x80, 0x88},
		{0x1800, 0x1800, 0x1880},
		{0x1808, 0x1880, 0x1880},
		{0x1880, 0x1800, 0x1888},
		{0x1888, 0x1880, 0x1888},
		{0xffffff77, 0xffffff77, 0xfffffff7},
		{0xffffff7f, 0xfffffff7, 0xfffffff7},
		{0xfffffff7, 0xffffff77, 0xffffffff},
		{0xffffffff, 0xfffffff7, 0xffffffff},
	} {
		if k, _ := Enter(api.Csrs{Status: c.ahead}, 0, 0, 0); k.Status != c.behindTrap {
			t.Errorf("behind a trap %x is %x; want %x", c.ahead, k.Status, c.behindTrap)
		}
		if k, _ := Return(api.Csrs{Status: c.ahead}); k.Status != c.behindReturn {
			t.Errorf("behind the way back %x is %x; want %x", c.ahead, k.Status, c.behindReturn)
		}
	}
}

// P17.1: each single bit of Status, all of them and none, with all that the others may be.
func TestStatus(t *testing.T) {
	for _, w := range words() {
		for _, k := range []api.Csrs{{}, full, {Ie: math.MaxUint32, Tvec: math.MaxUint32, Scratch: math.MaxUint32, Epc: math.MaxUint32, Cause: math.MaxUint32, Tval: math.MaxUint32}} {
			k.Status = w
			checkEnter(t, k, 0x80000010, api.CauseTimer, 0)
			checkEnter(t, k, 0xffffffff, api.CauseStore, 0xffffffff)
			checkReturn(t, k)
		}
	}
}

// P17.1: what is handed in is what Epc, Cause and Tval become, whatever it is.
func TestWhatIsHandedIn(t *testing.T) {
	for _, pc := range edges {
		for _, cause := range edges {
			for _, tval := range edges {
				checkEnter(t, full, pc, cause, tval)
			}
		}
	}
}

// P17.1: each bit of each register stays, or does not, whatever the others are.
func TestEachRegister(t *testing.T) {
	for _, w := range words() {
		for _, k := range []api.Csrs{
			{Status: w}, {Ie: w}, {Tvec: w}, {Scratch: w}, {Epc: w}, {Cause: w}, {Tval: w},
			{Status: w, Ie: w, Tvec: w, Scratch: w, Epc: w, Cause: w, Tval: w},
		} {
			checkEnter(t, k, 0x80000123, api.CauseExternal, 0x321)
			checkReturn(t, k)
		}
	}
}

// P17.1: where a trap goes on, by hand: example 1 of the chapter, Tvec's lowest bits, sums by their rest.
func TestGoesOnByHand(t *testing.T) {
	for _, c := range []struct{ tvec, cause, at uint32 }{
		{0x80000101, api.CauseTimer, 0x8000011c},
		{0x80000101, api.CauseSoft, 0x8000010c},
		{0x80000101, api.CauseExternal, 0x8000012c},
		{0x80000101, api.CauseCall, 0x80000100},
		{0x80000101, 7, 0x80000100},
		{0x80000100, api.CauseTimer, 0x80000100},
		{0x80000102, api.CauseTimer, 0x80000100},
		{0x80000103, api.CauseTimer, 0x8000011c},
		{0x80000103, api.CauseStore, 0x80000100},
		{0x80000101, 0x80000000, 0x80000100},
		{0x80000101, 0xa0000000, 0x00000100},
		{0x80000101, 0xa0000001, 0x00000104},
		{0x80000101, 0xc0000000, 0x80000100},
		{0x80000101, 0xffffffff, 0x800000fc},
		{0xfffffffd, 0x80000001, 0},
		{0xffffffff, 0x8000000b, 0x28},
		{0xffffffff, 0x7fffffff, 0xfffffffc},
		{3, 0, 0},
		{1, 0xffffffff, 0xfffffffc},
	} {
		if _, at := Enter(api.Csrs{Tvec: c.tvec}, 0x80000000, c.cause, 0); at != c.at {
			t.Errorf("Tvec %x, cause %x: goes on at %x; want %x", c.tvec, c.cause, at, c.at)
		}
	}
}

// P17.1: where a trap goes on: each value of Tvec's lowest bits, with causes of all kinds.
func TestGoesOn(t *testing.T) {
	for _, w := range words() {
		for low := range uint32(4) {
			for _, cause := range some() {
				k := full
				k.Tvec = w - w%4 + low
				checkEnter(t, k, 0x80000010, cause, 1)
			}
			for _, c := range allCauses {
				k := full
				k.Tvec = w - w%4 + low
				checkEnter(t, k, 0x80000010, c.number, 1)
			}
		}
	}
}

// P17.1: the way back goes on at Epc, also at one that no instruction can have.
func TestGoesBack(t *testing.T) {
	for _, w := range words() {
		for low := range uint32(4) {
			k := full
			k.Epc = w - w%4 + low
			checkReturn(t, k)
		}
	}
	got, at := Return(api.Csrs{Status: 0x1880, Ie: 0x880, Tvec: 0x80000041, Scratch: 7, Epc: 0x80000013, Cause: 11, Tval: 9})
	want := api.Csrs{Status: 0x1888, Ie: 0x880, Tvec: 0x80000041, Scratch: 7, Epc: 0x80000013, Cause: 11, Tval: 9}
	if got != want || at != 0x80000013 {
		t.Errorf("by hand: %x, %x", got, at)
	}
}

// P17.1: a long row of traps and ways back, each with what the one ahead left.
func TestLongRow(t *testing.T) {
	r := row(17)
	k := r.csrs()
	for range 200000 {
		switch r.next() >> 16 % 8 {
		case 0:
			k = r.csrs()
		case 1, 2, 3:
			checkReturn(t, k)
			k, _ = Return(k)
		default:
			pc, cause, tval := r.next(), r.next(), r.next()
			checkEnter(t, k, pc, cause, tval)
			k, _ = Enter(k, pc, cause, tval)
		}
	}
}

// choose answers the word of bits 3, 7 and 11 that has those whose place is set in n.
func choose(n int) uint32 {
	w := uint32(0)
	for place, bit := range []int{3, 7, 11} {
		if n>>place%2 == 1 {
			w |= 1 << bit
		}
	}
	return w
}

// P17.2: who is heard, by hand.
func TestHeardByHand(t *testing.T) {
	for _, c := range []struct {
		status, ie, calls uint32
		cause             uint32
		heard, wakes      bool
	}{
		{0x1808, 0x888, 0x888, 0x8000000b, true, true},
		{0x1808, 0x888, 0x088, 0x80000003, true, true},
		{0x1808, 0x888, 0x008, 0x80000003, true, true},
		{0x1808, 0x888, 0x080, 0x80000007, true, true},
		{0x1808, 0x888, 0x880, 0x8000000b, true, true},
		{0x1808, 0x888, 0x808, 0x8000000b, true, true},
		{0x1808, 0x888, 0x800, 0x8000000b, true, true},
		{0x1808, 0x088, 0x888, 0x80000003, true, true},
		{0x1808, 0x080, 0x888, 0x80000007, true, true},
		{0x1808, 0x080, 0x808, 0, false, false},
		{0x1808, 0x888, 0, 0, false, false},
		{0x1808, 0, 0x888, 0, false, false},
		{0x1880, 0x888, 0x888, 0, false, true},
		{0, 0x888, 0x008, 0, false, true},
		{8, 0x888, 0x008, 0x80000003, true, true},
		{0xfffffff7, 0xffffffff, 0xffffffff, 0, false, true},
		{0xffffffff, 0xffffffff, 0xffffffff, 0x8000000b, true, true},
		{0xffffffff, 0xffffffff, 0xfffff777, 0, false, false},
		{0xffffffff, 0xfffff777, 0xffffffff, 0, false, false},
		{0xffffffff, 0xfffff7ff, 0xfffffff7, 0x80000007, true, true},
	} {
		k := api.Csrs{Status: c.status, Ie: c.ie}
		if cause, ok := Heard(k, c.calls); cause != c.cause || ok != c.heard {
			t.Errorf("Status %x, Ie %x, calls %x: heard %x, %v; want %x, %v", c.status, c.ie, c.calls, cause, ok, c.cause, c.heard)
		}
		if wakes := Wakes(k, c.calls); wakes != c.wakes {
			t.Errorf("Status %x, Ie %x, calls %x: wakes %v", c.status, c.ie, c.calls, wakes)
		}
	}
}

// P17.2: every way that the three bits of calls and of Ie are set or not, with Status's bit 3 set and not, and with all other bits set and none.
func TestEveryWayOfCalls(t *testing.T) {
	const three, hears = 0x888, 8
	for n := range 8 * 8 {
		for _, otherCalls := range []uint32{0, math.MaxUint32 &^ three} {
			for _, otherIe := range []uint32{0, math.MaxUint32 &^ three} {
				for _, status := range []uint32{0, hears, 0x80, 0x88, 0x1800, 0x1808, math.MaxUint32 &^ hears, math.MaxUint32} {
					k := full
					k.Status, k.Ie = status, otherIe|choose(n%8)
					checkCalls(t, k, otherCalls|choose(n/8))
				}
			}
		}
	}
}

// P17.2: each single bit of calls, of Ie and of Status alone, and each missing alone: no other bit calls anybody, or wakes.
func TestSingleBits(t *testing.T) {
	for _, calls := range words() {
		for _, ie := range words() {
			for _, status := range []uint32{0, 8, math.MaxUint32 - 8, math.MaxUint32} {
				checkCalls(t, api.Csrs{Status: status, Ie: ie}, calls)
			}
		}
		for _, status := range words() {
			checkCalls(t, api.Csrs{Status: status, Ie: math.MaxUint32}, calls)
			checkCalls(t, api.Csrs{Status: status, Ie: 0x888}, calls)
		}
	}
}

// P17.2: registers other than Status and Ie have no say in who is heard, and Status none in who wakes.
func TestOthersHaveNoSay(t *testing.T) {
	r := row(29)
	for range 200000 {
		k, other, calls := r.csrs(), r.csrs(), r.next()
		checkCalls(t, k, calls)
		other.Ie = k.Ie
		if Wakes(k, calls) != Wakes(other, calls) {
			t.Fatalf("Wakes of %x and %x, %x", k, other, calls)
		}
		other.Status = k.Status
		a, aOk := Heard(k, calls)
		if b, bOk := Heard(other, calls); a != b || aOk != bOk {
			t.Fatalf("Heard of %x and %x, %x", k, other, calls)
		}
	}
}

// P17.3: each cause of api has the document's number and its name, and no other one's.
func TestNames(t *testing.T) {
	seen := map[string]bool{}
	for _, c := range allCauses {
		if c.given != c.number || Name(c.number) != c.name {
			t.Errorf("%x is %q; want %q of %x", c.given, Name(c.number), c.name, c.number)
		}
		if seen[c.name] {
			t.Errorf("%q twice", c.name)
		}
		seen[c.name] = true
	}
	if len(seen) != 12 {
		t.Errorf("%d names", len(seen))
	}
}

func nameOf(cause uint32) string {
	for _, c := range allCauses {
		if c.number == cause {
			return c.name
		}
	}
	return "unknown"
}

// P17.3: numbers between and behind the causes, about those that have bit 31, and the greatest are unknown.
func TestUnknown(t *testing.T) {
	for _, cause := range []uint32{
		8, 9, 10, 12, 13, 15, 16, 1<<31 - 1, 1 << 31, 1<<31 + 1, 0x80000002, 0x80000004, 0x80000006, 0x80000008,
		0x80000009, 0x8000000a, 0x8000000c, 0x40000003, 0x10000007, 0x80000103, math.MaxUint32 - 1, math.MaxUint32,
	} {
		if Name(cause) != "unknown" {
			t.Errorf("%x is %q", cause, Name(cause))
		}
	}
}

// P17.3: every number up to and from edges, and those that differ from a cause by one bit.
func TestNamesAbout(t *testing.T) {
	check := func(cause uint32) {
		if Name(cause) != nameOf(cause) {
			t.Fatalf("%x is %q; want %q", cause, Name(cause), nameOf(cause))
		}
	}
	for n := range uint32(70000) {
		check(n)
		check(1<<31 + n)
		check(1<<31 - 1 - n)
		check(math.MaxUint32 - n)
	}
	for _, c := range allCauses {
		for bit := range 32 {
			check(c.number ^ 1<<bit)
		}
	}
	r := row(3)
	for range 200000 {
		check(r.next())
	}
}

// checkThereAndBack holds a trap and the way back from it against what was ahead.
func checkThereAndBack(t *testing.T, k api.Csrs, pc, cause, tval, calls uint32) {
	t.Helper()
	what := fmt.Sprintf("%x at %x, cause %x, value %x, calls %x", k, pc, cause, tval, calls)
	in, _ := Enter(k, pc, cause, tval)
	if c, ok := Heard(in, calls); c != 0 || ok {
		t.Fatalf("%s: %x is heard in the trap", what, c)
	}
	if Wakes(in, calls) != Wakes(k, calls) {
		t.Fatalf("%s: wakes otherwise in the trap", what)
	}
	back, at := Return(in)
	if at != pc {
		t.Fatalf("%s: goes on at %x", what, at)
	}
	c, ok := Heard(k, calls)
	if d, still := Heard(back, calls); d != c || still != ok {
		t.Fatalf("%s: %x, %v is heard; ahead %x, %v", what, d, still, c, ok)
	}
	if Wakes(back, calls) != Wakes(k, calls) {
		t.Fatalf("%s: wakes otherwise behind the way back", what)
	}
}

// P17.4: the way back goes on where the trap was; nobody is heard in it, and behind it who was ahead.
func TestThereAndBack(t *testing.T) {
	for _, status := range words() {
		for _, ie := range []uint32{0, 8, 0x80, 0x800, 0x88, 0x888, math.MaxUint32} {
			for _, calls := range []uint32{0, 8, 0x80, 0x800, 0x880, 0x888, 0xfffff777, math.MaxUint32} {
				k := full
				k.Status, k.Ie = status, ie
				checkThereAndBack(t, k, 0x80000010, api.CauseCall, 0, calls)
			}
		}
	}
	for _, pc := range words() {
		for _, cause := range some() {
			checkThereAndBack(t, full, pc, cause, pc, 0x888)
		}
	}
	r := row(4)
	for range 100000 {
		checkThereAndBack(t, r.csrs(), r.next(), r.next(), r.next(), r.next())
	}
}

// P17.4: a trap in a trap, whose kept registers are put back ahead of the second way back, is come back from likewise.
func TestTrapInTrap(t *testing.T) {
	r := row(44)
	for range 50000 {
		k, pc, calls := r.csrs(), r.next(), r.next()
		first, at := Enter(k, pc, r.next(), r.next())
		second, _ := Enter(first, at+8, r.next(), r.next())
		inFirst, again := Return(second)
		if c, ok := Heard(inFirst, calls); again != at+8 || c != 0 || ok {
			t.Fatalf("%x: goes on at %x, %x is heard", k, again, c)
		}
		inFirst.Status, inFirst.Epc = first.Status, first.Epc // what whoever handles the first one kept
		back, home := Return(inFirst)
		c, ok := Heard(k, calls)
		if d, still := Heard(back, calls); home != pc || d != c || still != ok {
			t.Fatalf("%x: goes on at %x, %x, %v is heard; ahead %x, %v", k, home, d, still, c, ok)
		}
	}
}
