package flog

import (
	"bytes"
	"math/rand"
	"testing"

	"landfall/api"
	"landfall/block"
)

// some is n records, one behind the other.
func some(r *rand.Rand, n int) []api.Rec {
	var l []api.Rec
	var x api.Rec
	for range n {
		x.Time += uint32(r.Intn(300))
		for range r.Intn(5) {
			x.V[r.Intn(12)] += int32(r.Uint32()) >> r.Intn(32)
		}
		l = append(l, x)
	}
	return l
}

// model is the blocks of a log, as the document tells it.
func model(every int, recs []api.Rec) []api.Block {
	var out []api.Block
	var now []api.Entry
	for i, r := range recs {
		x := api.Entry{Key: len(now) == 0 || i%every == 0, Rec: r}
		if block.Size(append(now[:len(now):len(now)], x)) > 248 {
			out = append(out, api.Block{No: uint32(len(out)), L: now})
			now, x.Key = nil, true
		}
		now = append(now, x)
	}
	if len(now) > 0 {
		out = append(out, api.Block{No: uint32(len(out)), L: now})
	}
	return out
}

func TestWrite(t *testing.T) { // P3602, P3603, P3604
	r := rand.New(rand.NewSource(1))
	for range 300 {
		every, recs := 1+r.Intn(12), some(r, r.Intn(100))
		if r.Intn(5) == 0 {
			every = 255
		}
		var want []byte
		for _, b := range model(every, recs) {
			s, err := block.Put(b)
			if err != 0 {
				t.Fatal(err)
			}
			want = append(want, s...)
		}
		got, err := Write(every, recs...)
		if err != 0 || !bytes.Equal(got, want) {
			t.Fatal(every, len(recs), len(got), len(want))
		}
		var seen []api.Rec
		for i := 0; i < len(got); i += 256 {
			b, err := block.Take(got[i : i+256])
			if err != 0 || int(b.No) != i/256 {
				t.Fatal(b, err)
			}
			for _, x := range b.L {
				if len(seen)%every == 0 && !x.Key {
					t.Fatal("no key", len(seen))
				}
				seen = append(seen, x.Rec)
			}
		}
		if len(seen) != len(recs) {
			t.Fatal(len(seen), len(recs))
		}
		for i := range seen {
			if seen[i] != recs[i] {
				t.Fatal(i)
			}
		}
	}
	if b, err := Write(1); err != 0 || len(b) != 0 {
		t.Error("example")
	}
	for _, every := range []int{0, -1, 256, -1 << 63, 1<<63 - 1} {
		if b, err := Write(every, api.Rec{}); err != api.ErrArg || len(b) != 0 || New(every) != nil {
			t.Error(every, err)
		}
	}
	if New(1) == nil || New(255) == nil {
		t.Error("New")
	}
}

func TestLog(t *testing.T) { // P3602, P3603
	l := New(1)
	counts := func(open, records, blocks int) {
		t.Helper()
		if a, b := l.Counts(); l.Open() != open || a != records || b != blocks {
			t.Error(l.Open(), a, b)
		}
	}
	counts(0, 0, 0)
	if len(l.Flush()) != 0 {
		t.Error("empty")
	}
	counts(0, 0, 0)
	for i := range 4 {
		if len(l.Add(api.Rec{Time: uint32(i)})) != 0 {
			t.Error(i)
		}
		counts(i+1, i+1, 0)
	}
	first := l.Add(api.Rec{Time: 4})
	counts(1, 5, 1)
	if b, err := block.Take(first); err != 0 || b.No != 0 || len(b.L) != 4 {
		t.Error(b, err)
	}
	second := l.Flush()
	counts(0, 5, 2)
	if b, err := block.Take(second); err != 0 || b.No != 1 || len(b.L) != 1 || b.L[0] != (api.Entry{Key: true, Rec: api.Rec{Time: 4}}) {
		t.Error(b, err)
	}
	if len(l.Flush()) != 0 {
		t.Error("again")
	}
	counts(0, 5, 2)
	l = New(3)
	l.Add(api.Rec{})
	l.Flush()
	l.Add(api.Rec{})
	l.Add(api.Rec{})
	l.Add(api.Rec{})
	b, _ := block.Take(l.Flush())
	keys := []bool{true, false, true}
	for i, x := range b.L {
		if x.Key != keys[i] {
			t.Error(i, x.Key)
		}
	}
	first[0] = 0
	if again := l.Flush(); len(again) != 0 {
		t.Error("empty")
	}
}

func TestNoLog(t *testing.T) { // P3601
	for _, l := range []*Log{nil, {}} {
		a, b := l.Counts()
		if len(l.Add(api.Rec{})) != 0 || len(l.Flush()) != 0 || l.Open() != 0 || a != 0 || b != 0 {
			t.Error("no log")
		}
	}
}
