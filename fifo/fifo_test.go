package fifo

import (
	"bytes"
	"testing"

	"mimesis/api"
)

// size is how many bytes the document lets wait.
const size = 16

// model is a row told anew: a list, of which a part is cut off in front, and to which one is put behind.
type model struct {
	row []byte
}

func (o *model) push(b byte) bool {
	if len(o.row) == size {
		return false
	}
	o.row = append(append([]byte{}, o.row...), b)
	return true
}

func (o *model) pop() (byte, bool) {
	if len(o.row) == 0 {
		return 0, false
	}
	b := o.row[0]
	o.row = o.row[1:]
	return b, true
}

// wantRow holds all that can be seen of a row, without changing it, against the bytes that must wait.
func wantRow(t *testing.T, f *Fifo, want []byte) {
	t.Helper()
	if f.Len() != len(want) {
		t.Fatalf("Len: %d, want %d", f.Len(), len(want))
	}
	if got := f.All(); !bytes.Equal(got, want) {
		t.Fatalf("All: %d, want %d", got, want)
	}
}

// wantPopped pops until nothing waits, and holds what came against want.
func wantPopped(t *testing.T, f *Fifo, want []byte) {
	t.Helper()
	for i, w := range want {
		if b, ok := f.Pop(); b != w || !ok {
			t.Fatalf("pop %d: %d %v, want %d", i, b, ok, w)
		}
		wantRow(t, f, want[i+1:])
	}
	if b, ok := f.Pop(); b != 0 || ok {
		t.Fatalf("pop of an empty row: %d %v", b, ok)
	}
	wantRow(t, f, nil)
}

func pushAll(t *testing.T, f *Fifo, l []byte) {
	t.Helper()
	for i, b := range l {
		if !f.Push(b) {
			t.Fatalf("push %d refused", i)
		}
	}
}

// begun answers an empty row of which that many places have been gone through.
func begun(t *testing.T, places int) *Fifo {
	t.Helper()
	f := New()
	for i := range places {
		pushAll(t, f, []byte{byte(200 + i)})
		if b, ok := f.Pop(); b != byte(200+i) || !ok {
			t.Fatalf("pop %d: %d %v", i, b, ok)
		}
	}
	return f
}

// some answers n bytes from a on, none of which is 0 and no two of which are alike.
func some(a, n int) []byte {
	out := make([]byte, n)
	for i := range out {
		out[i] = byte(a + i*3)
	}
	return out
}

// P11.1: FifoSize is the limit.
func TestSize(t *testing.T) {
	if api.FifoSize != size {
		t.Fatalf("FifoSize: %d", api.FifoSize)
	}
}

// P11.1: New().
func TestNew(t *testing.T) {
	f := New()
	if f == nil {
		t.Fatal("none")
	}
	wantRow(t, f, nil)
	if b, ok := f.Pop(); b != 0 || ok {
		t.Errorf("pop: %d %v", b, ok)
	}
	g := New()
	pushAll(t, f, []byte{7})
	wantRow(t, g, nil)
	pushAll(t, g, []byte{8, 9})
	wantRow(t, f, []byte{7})
	wantRow(t, New(), nil)
}

// P11.1: a row that New did not make is an empty one.
func TestUnmade(t *testing.T) {
	var f Fifo
	wantPopped(t, &f, nil)
	pushAll(t, &f, some(1, size))
	wantPopped(t, &f, some(1, size))
}

// P11.1, example 1.
func TestExample(t *testing.T) {
	f := New()
	pushAll(t, f, []byte{1, 2})
	if b, ok := f.Pop(); b != 1 || !ok {
		t.Errorf("%d %v", b, ok)
	}
	wantRow(t, f, []byte{2})
}

// P11.1: Push(b), Pop(): each byte, 0 too.
func TestEachByte(t *testing.T) {
	for b := range 256 {
		f := New()
		pushAll(t, f, []byte{byte(b)})
		wantRow(t, f, []byte{byte(b)})
		pushAll(t, f, []byte{byte(b), byte(255 - b)})
		wantPopped(t, f, []byte{byte(b), byte(b), byte(255 - b)})
	}
}

// P11.1: Push(b) until FifoSize are there, and beyond, wherever the places begin.
func TestPushFull(t *testing.T) {
	for places := range 2*size + 1 {
		f := begun(t, places)
		want := some(1, size)
		for i, b := range want {
			pushAll(t, f, []byte{b})
			wantRow(t, f, want[:i+1])
		}
		for range 3 {
			if f.Push(99) {
				t.Fatal("one more than FifoSize")
			}
			wantRow(t, f, want)
		}
		for i := range size + 3 {
			if b, ok := f.Pop(); b != want[0] || !ok {
				t.Fatalf("pop: %d %v, want %d", b, ok, want[0])
			}
			b := byte(100 + i)
			pushAll(t, f, []byte{b})
			want = append(append([]byte{}, want[1:]...), b)
			wantRow(t, f, want)
			if f.Push(98) {
				t.Fatal("one more than FifoSize")
			}
			wantRow(t, f, want)
		}
		wantPopped(t, f, want)
	}
}

// P11.1: Pop(): of a row of each length, wherever its places begin; of an empty one nothing changes.
func TestPop(t *testing.T) {
	for places := range 2*size + 1 {
		for n := range size + 1 {
			f := begun(t, places)
			for range 2 {
				if b, ok := f.Pop(); b != 0 || ok {
					t.Fatalf("pop of an empty row: %d %v", b, ok)
				}
			}
			pushAll(t, f, some(1, n))
			wantPopped(t, f, some(1, n))
			pushAll(t, f, some(60, size))
			wantPopped(t, f, some(60, size))
		}
	}
}

// P11.1: All(): what was handed out is the asker's own.
func TestAllIsNew(t *testing.T) {
	for places := range size {
		f := begun(t, places)
		want := some(5, size)
		pushAll(t, f, want[:size-4])
		got := f.All()
		for i := range got {
			got[i] = 255
		}
		room := got[:cap(got)]
		for i := range room {
			room[i] = 255
		}
		wantRow(t, f, want[:size-4])
		kept := f.All()
		pushAll(t, f, want[size-4:])
		f.Pop()
		if !bytes.Equal(kept, want[:size-4]) {
			t.Fatalf("what was handed out is %d behind a push and a pop", kept)
		}
		f.Clear()
		if !bytes.Equal(kept, want[:size-4]) {
			t.Fatalf("what was handed out is %d behind Clear", kept)
		}
	}
}

// P11.1: Clear(): of a row of each length, and what is pushed behind it.
func TestClear(t *testing.T) {
	for places := range size + 1 {
		for n := range size + 1 {
			f := begun(t, places)
			pushAll(t, f, some(1, n))
			f.Clear()
			wantRow(t, f, nil)
			if b, ok := f.Pop(); b != 0 || ok {
				t.Fatalf("pop behind Clear: %d %v", b, ok)
			}
			f.Clear()
			wantRow(t, f, nil)
			pushAll(t, f, some(80, size))
			if f.Push(1) {
				t.Fatal("one more than FifoSize behind Clear")
			}
			wantPopped(t, f, some(80, size))
		}
	}
}

// P11.1: Clone(): each of the two goes its own way.
func TestClone(t *testing.T) {
	changes := []struct {
		name string
		do   func(f *Fifo)
	}{
		{"Push", func(f *Fifo) { f.Push(250) }},
		{"Pop", func(f *Fifo) { f.Pop() }},
		{"Clear", func(f *Fifo) { f.Clear() }},
		{"Pop and Push", func(f *Fifo) { f.Pop(); f.Push(251); f.Pop(); f.Push(252) }},
		{"Clear and Push", func(f *Fifo) { f.Clear(); f.Push(253); f.Push(254) }},
	}
	for _, c := range changes {
		for places := range size + 1 {
			for n := range size + 1 {
				want := some(1, n)
				for _, ofClone := range []bool{false, true} {
					changed := begun(t, places)
					pushAll(t, changed, want)
					left := changed.Clone()
					if left == nil || left == changed {
						t.Fatal("no row of its own")
					}
					wantRow(t, left, want)
					wantRow(t, changed, want)
					if ofClone {
						changed, left = left, changed
					}
					c.do(changed)
					wantRow(t, left, want)
					wantPopped(t, left, want)
				}
			}
		}
	}
}

// P11.1: a clone is changed as the row that it was made of would be.
func TestCloneGoesOn(t *testing.T) {
	for n := range size + 1 {
		f := begun(t, n)
		pushAll(t, f, some(1, n))
		c := f.Clone()
		pushAll(t, c, some(90, size-n))
		if c.Push(1) {
			t.Fatal("one more than FifoSize in a clone")
		}
		wantPopped(t, c, append(some(1, n), some(90, size-n)...))
		wantPopped(t, f, some(1, n))
	}
}

// P11.1: of nil.
func TestNil(t *testing.T) {
	var f *Fifo
	if f.Push(1) {
		t.Error("Push")
	}
	if b, ok := f.Pop(); b != 0 || ok {
		t.Errorf("Pop: %d %v", b, ok)
	}
	if f.Len() != 0 {
		t.Errorf("Len: %d", f.Len())
	}
	if l := f.All(); len(l) != 0 {
		t.Errorf("All: %d", l)
	}
	f.Clear()
	if f.Clone() != nil {
		t.Error("Clone")
	}
}

// P11.2: a long row of pushes and pops in turn, as many of each at a time as the numbers say, from every beginning of the places.
func TestInOrder(t *testing.T) {
	for places := range size {
		for pushes := 1; pushes <= size+2; pushes++ {
			for pops := 1; pops <= size+2; pops++ {
				f, o := begun(t, places), &model{}
				next := byte(0)
				for range 12 {
					for range pushes {
						next += 7
						if got, want := f.Push(next), o.push(next); got != want {
							t.Fatalf("Push: %v, want %v", got, want)
						}
						wantRow(t, f, o.row)
					}
					for range pops {
						got, is := f.Pop()
						if want, wantIs := o.pop(); got != want || is != wantIs {
							t.Fatalf("Pop: %d %v, want %d %v", got, is, want, wantIs)
						}
						wantRow(t, f, o.row)
					}
				}
				wantPopped(t, f, o.row)
			}
		}
	}
}

// P11.2: all that was ever pushed is all that was popped, in the same order.
func TestWhole(t *testing.T) {
	f := New()
	var in, out []byte
	state := uint32(1)
	for range 20000 {
		state = state*1664525 + 1013904223
		if b := byte(state >> 20); state>>31 == 0 {
			if f.Push(b) {
				in = append(in, b)
			}
		} else if b, ok := f.Pop(); ok {
			out = append(out, b)
		}
		if len(in)-len(out) != f.Len() {
			t.Fatalf("Len: %d, want %d", f.Len(), len(in)-len(out))
		}
	}
	out = append(out, f.All()...)
	if !bytes.Equal(in, out) {
		t.Fatal("what came out is not what went in")
	}
}
