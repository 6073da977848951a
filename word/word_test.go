package word

import (
	"bytes"
	"fmt"
	"math"
	"strings"
	"testing"

	"mimesis/api"
)

// sampleWords are the edges, each single bit and its opposite, and a fixed row of mixed words.
func sampleWords() []uint32 {
	out := []uint32{0, 1, 0x7fffffff, 0x80000000, 0xffffffff, 0x12345678, 0x89abcdef, 0x55555555, 0xaaaaaaaa}
	for i := range 32 {
		out = append(out, uint32(1)<<i, ^(uint32(1) << i))
	}
	x := uint32(1)
	for range 32 {
		x = x*1664525 + 1013904223
		out = append(out, x)
	}
	return out
}

// farInts are numbers that no place, width or size may be.
func farInts() []int {
	return []int{math.MinInt, math.MinInt + 1, math.MinInt + 31, math.MinInt32, -33, -32, -2, -1, 33, 34, 64, 255, 256, math.MaxInt32, math.MaxInt - 31, math.MaxInt - 1, math.MaxInt}
}

// bitOf goes without shifts of w, so that it shares nothing with the package's way.
func bitOf(w uint32, i int) uint32 {
	for range i {
		w /= 2
	}
	return w % 2
}

func powerOf2(n int) uint32 {
	p := uint32(1)
	for range n {
		p *= 2
	}
	return p
}

func wantBits(w uint32, at, width int) uint32 {
	var out uint32
	for i := range width {
		out += bitOf(w, at+i) * powerOf2(i)
	}
	return out
}

func wantPut(w uint32, at, width int, x uint32) uint32 {
	var out uint32
	for i := range 32 {
		b := bitOf(w, i)
		if i >= at && i < at+width {
			b = bitOf(x, i-at)
		}
		out += b * powerOf2(i)
	}
	return out
}

// wantSigned is the value of the lowest width bits, less 2^width if the highest of them is set.
func wantSigned(x uint32, width int) int {
	v := int(wantBits(x, 0, width))
	if bitOf(x, width-1) == 1 {
		v -= int(powerOf2(width-1)) * 2
	}
	return v
}

// P1.1
func TestBitsAtEveryField(t *testing.T) {
	for _, w := range sampleWords() {
		for at := range 32 {
			for width := 1; width <= 32-at; width++ {
				got, e := Bits(w, at, width)
				if want := wantBits(w, at, width); got != want || e != api.OK {
					t.Fatalf("Bits(%#x, %d, %d) = %#x, %v; want %#x", w, at, width, got, e, want)
				}
			}
		}
	}
}

// P1.1
func TestBitsNamedInputs(t *testing.T) {
	cases := []struct {
		w         uint32
		at, width int
		want      uint32
	}{
		{0x12345678, 8, 8, 0x56},
		{0x12345678, 0, 32, 0x12345678},
		{0x12345678, 28, 4, 1},
		{0x80000000, 31, 1, 1},
		{0x7fffffff, 31, 1, 0},
		{1, 0, 1, 1},
		{0xfffffffe, 0, 1, 0},
		{0xfffffffe, 1, 31, 0x7fffffff},
	}
	for _, c := range cases {
		if got, e := Bits(c.w, c.at, c.width); got != c.want || e != api.OK {
			t.Errorf("Bits(%#x, %d, %d) = %#x, %v; want %#x", c.w, c.at, c.width, got, e, c.want)
		}
	}
}

// P1.1
func TestPutAtEveryField(t *testing.T) {
	xs := []uint32{0, 1, 0xffffffff, 0x89abcdef, 0x76543210, 0xaaaaaaaa}
	for _, w := range sampleWords() {
		for _, x := range xs {
			for at := range 32 {
				for width := 1; width <= 32-at; width++ {
					got, e := Put(w, at, width, x)
					if want := wantPut(w, at, width, x); got != want || e != api.OK {
						t.Fatalf("Put(%#x, %d, %d, %#x) = %#x, %v; want %#x", w, at, width, x, got, e, want)
					}
				}
			}
		}
	}
}

// P1.1
func TestPutNamedInputs(t *testing.T) {
	cases := []struct {
		w         uint32
		at, width int
		x, want   uint32
	}{
		{0xffffffff, 4, 8, 0x12, 0xfffff12f},
		{0, 4, 8, 0xfff12, 0x120},
		{0x12345678, 0, 32, 0x9abcdef0, 0x9abcdef0},
		{0, 31, 1, 0xffffffff, 0x80000000},
		{0xffffffff, 31, 1, 0xfffffffe, 0x7fffffff},
		{0xffffffff, 0, 1, 2, 0xfffffffe},
	}
	for _, c := range cases {
		if got, e := Put(c.w, c.at, c.width, c.x); got != c.want || e != api.OK {
			t.Errorf("Put(%#x, %d, %d, %#x) = %#x, %v; want %#x", c.w, c.at, c.width, c.x, got, e, c.want)
		}
	}
}

func wantNoField(t *testing.T, at, width int) {
	t.Helper()
	if got, e := Bits(0xffffffff, at, width); got != 0 || e != api.ErrRange {
		t.Errorf("Bits(_, %d, %d) = %#x, %v; want 0, range", at, width, got, e)
	}
	if got, e := Put(0xffffffff, at, width, 0xffffffff); got != 0 || e != api.ErrRange {
		t.Errorf("Put(_, %d, %d, _) = %#x, %v; want 0, range", at, width, got, e)
	}
}

// P1.1
func TestFieldsThatThereAreNot(t *testing.T) {
	for at := -40; at <= 40; at++ {
		for width := -40; width <= 80; width++ {
			if at < 0 || at > 31 || width < 1 || width > 32-at {
				wantNoField(t, at, width)
			}
		}
	}
	for _, far := range farInts() {
		for near := -2; near <= 34; near++ {
			wantNoField(t, far, near)
			wantNoField(t, near, far)
		}
		for _, other := range farInts() {
			wantNoField(t, far, other)
		}
	}
}

// P1.2
func TestExtendAtEveryWidth(t *testing.T) {
	for _, x := range sampleWords() {
		for width := 1; width <= 32; width++ {
			got, e := Extend(x, width)
			want := wantSigned(x, width)
			if got != uint32(want) || e != api.OK {
				t.Fatalf("Extend(%#x, %d) = %#x, %v; want %#x", x, width, got, e, uint32(want))
			}
			if s := Signed(got); s != want {
				t.Fatalf("Signed(Extend(%#x, %d)) = %d; want %d", x, width, s, want)
			}
		}
	}
}

// P1.2
func TestExtendNamedInputs(t *testing.T) {
	cases := []struct {
		x     uint32
		width int
		want  uint32
	}{
		{0xfff, 12, 0xffffffff},
		{0x7ff, 12, 0x7ff},
		{0x800, 12, 0xfffff800},
		{0xabcd0fff, 12, 0xffffffff},
		{0xabcd07ff, 12, 0x7ff},
		{1, 1, 0xffffffff},
		{2, 1, 0},
		{0x89abcdef, 32, 0x89abcdef},
		{0x80000000, 31, 0},
		{0x40000000, 31, 0xc0000000},
	}
	for _, c := range cases {
		if got, e := Extend(c.x, c.width); got != c.want || e != api.OK {
			t.Errorf("Extend(%#x, %d) = %#x, %v; want %#x", c.x, c.width, got, e, c.want)
		}
	}
}

// P1.2
func TestExtendWidthsThatThereAreNot(t *testing.T) {
	for _, width := range append(farInts(), 0) {
		for _, x := range []uint32{0, 1, 0xffffffff} {
			if got, e := Extend(x, width); got != 0 || e != api.ErrRange {
				t.Errorf("Extend(%#x, %d) = %#x, %v; want 0, range", x, width, got, e)
			}
		}
	}
}

// P1.2
func TestSigned(t *testing.T) {
	cases := []struct {
		w    uint32
		want int
	}{
		{0, 0},
		{1, 1},
		{0x7fffffff, 2147483647},
		{0x80000000, -2147483648},
		{0x80000001, -2147483647},
		{0xffffffff, -1},
	}
	for _, c := range cases {
		if got := Signed(c.w); got != c.want {
			t.Errorf("Signed(%#x) = %d; want %d", c.w, got, c.want)
		}
	}
	for _, w := range sampleWords() {
		if got, want := Signed(w), wantSigned(w, 32); got != want {
			t.Errorf("Signed(%#x) = %d; want %d", w, got, want)
		}
	}
}

// P1.3
func TestBytes(t *testing.T) {
	cases := []struct {
		w    uint32
		n    int
		want []byte
	}{
		{0x12345678, 1, []byte{0x78}},
		{0x12345678, 2, []byte{0x78, 0x56}},
		{0x12345678, 4, []byte{0x78, 0x56, 0x34, 0x12}},
		{0xffffffff, 4, []byte{255, 255, 255, 255}},
		{0, 4, []byte{0, 0, 0, 0}},
	}
	for _, c := range cases {
		if got, e := Bytes(c.w, c.n); !bytes.Equal(got, c.want) || e != api.OK {
			t.Errorf("Bytes(%#x, %d) = %x, %v; want %x", c.w, c.n, got, e, c.want)
		}
	}
}

// P1.3
func TestBytesSizesThatThereAreNot(t *testing.T) {
	for _, n := range append(farInts(), 0, 3, 5, 6, 7, 8, 16, 32) {
		if got, e := Bytes(0x12345678, n); len(got) != 0 || e != api.ErrRange {
			t.Errorf("Bytes(_, %d) = %x, %v; want none, range", n, got, e)
		}
	}
}

// P1.3
func TestBytesAreNewMemory(t *testing.T) {
	first, _ := Bytes(0x12345678, 4)
	clear(first)
	if second, _ := Bytes(0x12345678, 4); !bytes.Equal(second, []byte{0x78, 0x56, 0x34, 0x12}) {
		t.Errorf("a second answer shares memory with the first: %x", second)
	}
}

// P1.3
func TestNumber(t *testing.T) {
	cases := []struct {
		b    []byte
		want uint32
	}{
		{[]byte{0x80}, 0x80},
		{[]byte{1, 2}, 0x0201},
		{[]byte{1, 2, 3, 4}, 0x04030201},
		{[]byte{0, 0, 0, 0x80}, 0x80000000},
		{[]byte{255, 255, 255, 255}, 0xffffffff},
		{[]byte{0, 0}, 0},
	}
	for _, c := range cases {
		before := bytes.Clone(c.b)
		if got, e := Number(c.b); got != c.want || e != api.OK {
			t.Errorf("Number(%x) = %#x, %v; want %#x", before, got, e, c.want)
		}
		if !bytes.Equal(c.b, before) {
			t.Errorf("Number changed %x to %x", before, c.b)
		}
	}
}

// P1.3
func TestNumberStopsAtTheEnd(t *testing.T) {
	room := []byte{1, 2, 3, 4}
	if got, e := Number(room[:2]); got != 0x0201 || e != api.OK {
		t.Errorf("Number of two bytes with room behind = %#x, %v; want 0x201", got, e)
	}
	if got, e := Number(room[:3]); got != 0 || e != api.ErrRange {
		t.Errorf("Number of three bytes with room behind = %#x, %v; want 0, range", got, e)
	}
}

// P1.3
func TestNumberOfOtherSizes(t *testing.T) {
	for _, n := range []int{0, 3, 5, 6, 7, 8, 9, 256, 257, 1000} {
		if got, e := Number(bytes.Repeat([]byte{255}, n)); got != 0 || e != api.ErrRange {
			t.Errorf("Number of %d bytes = %#x, %v; want 0, range", n, got, e)
		}
	}
	if got, e := Number(nil); got != 0 || e != api.ErrRange {
		t.Errorf("Number(nil) = %#x, %v; want 0, range", got, e)
	}
}

// P1.4
func TestHex(t *testing.T) {
	for _, w := range sampleWords() {
		if got, want := Hex(w), fmt.Sprintf("%08x", w); got != want {
			t.Errorf("Hex(%d) = %q; want %q", w, got, want)
		}
	}
	if got := Hex(0xabcdef); got != "00abcdef" {
		t.Errorf("Hex(0xabcdef) = %q", got)
	}
}

// P1.4
func TestUnhex(t *testing.T) {
	cases := []struct {
		s    string
		want uint32
	}{
		{"0", 0},
		{"f", 15},
		{"F", 15},
		{"fF", 255},
		{"00", 0},
		{"0a", 10},
		{"12345678", 0x12345678},
		{"9abcdef0", 0x9abcdef0},
		{"9ABCDEF0", 0x9abcdef0},
		{"ffffffff", 0xffffffff},
		{"00000000", 0},
		{"1234567", 0x1234567},
	}
	for _, c := range cases {
		if got, e := Unhex(c.s); got != c.want || e != api.OK {
			t.Errorf("Unhex(%q) = %#x, %v; want %#x", c.s, got, e, c.want)
		}
	}
}

// P1.4
func TestUnhexAtEveryByte(t *testing.T) {
	for c := range 256 {
		at := strings.IndexByte("0123456789abcdef", byte(c))
		if c >= 'A' && c <= 'F' {
			at = c - 'A' + 10
		}
		for place := range 8 {
			s := []byte("11111111")
			s[place] = byte(c)
			got, e := Unhex(string(s))
			if at < 0 {
				if got != 0 || e != api.ErrForm {
					t.Errorf("Unhex(%q) = %#x, %v; want 0, form", s, got, e)
				}
				continue
			}
			want := wantPut(0x11111111, 28-4*place, 4, uint32(at))
			if got != want || e != api.OK {
				t.Errorf("Unhex(%q) = %#x, %v; want %#x", s, got, e, want)
			}
		}
	}
}

// P1.4
func TestUnhexOfOtherTexts(t *testing.T) {
	texts := []string{
		"", "123456789", "000000000", "0000000ff", "fffffffff", strings.Repeat("0", 1000), strings.Repeat("f", 256),
		"g", "G", "0x1", "0X1", "x", "-1", "+1", " 1", "1 ", "1\n", "1_0", "1.0", "1e+1", "\x00", "1\x00", "\xff", "é", "١", "１", "ａ", "1é",
	}
	for _, s := range texts {
		if got, e := Unhex(s); got != 0 || e != api.ErrForm {
			t.Errorf("Unhex(%q) = %#x, %v; want 0, form", s, got, e)
		}
	}
}

// P1.5
func TestWhatWasPutIsRead(t *testing.T) {
	for _, w := range sampleWords() {
		for at := range 32 {
			for width := 1; width <= 32-at; width++ {
				put, _ := Put(w, at, width, ^w)
				got, e := Bits(put, at, width)
				if want := wantBits(^w, 0, width); got != want || e != api.OK {
					t.Fatalf("Bits(Put(%#x, %d, %d, %#x)) = %#x, %v; want %#x", w, at, width, ^w, got, e, want)
				}
				read, _ := Bits(w, at, width)
				if back, e := Put(w, at, width, read); back != w || e != api.OK {
					t.Fatalf("putting back the bits of %#x at %d, %d wide, made %#x, %v", w, at, width, back, e)
				}
			}
		}
	}
}

// P1.5
func TestBytesThereAndBack(t *testing.T) {
	for _, w := range sampleWords() {
		for _, n := range []int{1, 2, 4} {
			b, e := Bytes(w, n)
			if len(b) != n || e != api.OK {
				t.Fatalf("Bytes(%#x, %d) = %x, %v", w, n, b, e)
			}
			if got, e := Number(b); got != wantBits(w, 0, 8*n) || e != api.OK {
				t.Errorf("Number(Bytes(%#x, %d)) = %#x, %v", w, n, got, e)
			}
		}
	}
	for _, b := range [][]byte{{0}, {200}, {1, 0}, {0, 255}, {9, 8, 7, 6}, {0, 0, 0, 1}} {
		w, _ := Number(b)
		if got, e := Bytes(w, len(b)); !bytes.Equal(got, b) || e != api.OK {
			t.Errorf("Bytes(Number(%x)) = %x, %v", b, got, e)
		}
	}
}

// P1.5
func TestDigitsThereAndBack(t *testing.T) {
	for _, w := range sampleWords() {
		s := Hex(w)
		if got, e := Unhex(s); got != w || e != api.OK {
			t.Errorf("Unhex(Hex(%#x)) = %#x, %v", w, got, e)
		}
		if got, e := Unhex(strings.ToUpper(s)); got != w || e != api.OK {
			t.Errorf("Unhex(%q) = %#x, %v; want %#x", strings.ToUpper(s), got, e, w)
		}
	}
	for _, s := range []string{"00000000", "0000000f", "f0000000", "89abcdef", "01234567"} {
		w, _ := Unhex(s)
		if got := Hex(w); got != s {
			t.Errorf("Hex(Unhex(%q)) = %q", s, got)
		}
	}
}
