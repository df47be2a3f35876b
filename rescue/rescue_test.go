package rescue

import (
	"bytes"
	"math/rand"
	"slices"
	"testing"

	"landfall/api"
	"landfall/block"
	"landfall/crc"
	"landfall/flog"
)

func some(r *rand.Rand, n int) []api.Rec {
	var l []api.Rec
	var x api.Rec
	for range n {
		x.Time += uint32(1 + r.Intn(300))
		for range r.Intn(5) {
			x.V[r.Intn(12)] += int32(r.Uint32()) >> r.Intn(32)
		}
		l = append(l, x)
	}
	return l
}

// log is the bytes of a log, and the records of each of its blocks.
func log(r *rand.Rand, n int) ([]byte, [][]api.Rec) {
	b, _ := flog.Write(1+r.Intn(9), some(r, n)...)
	var l [][]api.Rec
	for i := 0; i < len(b); i += 256 {
		x, _ := block.Take(b[i : i+256])
		l = append(l, Records(x))
	}
	return b, l
}

func TestRecords(t *testing.T) { // P3702
	b := api.Block{L: []api.Entry{{Key: true, Rec: api.Rec{Time: 1}}, {Rec: api.Rec{Time: 2}}}}
	if !slices.Equal(Records(b), []api.Rec{{Time: 1}, {Time: 2}}) || len(Records(api.Block{})) != 0 {
		t.Error("Records")
	}
}

func TestRead(t *testing.T) { // P3702, P3704, P3705
	if l, bad := Read(make([]byte, 300)); len(l) != 0 || !slices.Equal(bad, []int{0}) {
		t.Error("example", l, bad)
	}
	if l, bad := Read(make([]byte, 255)); len(l) != 0 || len(bad) != 0 {
		t.Error(l, bad)
	}
	r := rand.New(rand.NewSource(1))
	for range 200 {
		b, blocks := log(r, r.Intn(120))
		if l, bad := Read(b); !slices.Equal(l, slices.Concat(blocks...)) || len(bad) != 0 {
			t.Fatal(bad)
		}
		end := r.Intn(len(b) + 1)
		if l, bad := Read(b[:end]); !slices.Equal(l, slices.Concat(blocks[:end/256]...)) || len(bad) != 0 {
			t.Fatal(end, bad)
		}
		spoilt := map[int]bool{}
		for range r.Intn(5) {
			if len(b) > 0 {
				i := r.Intn(len(b))
				b[i] ^= byte(1 + r.Intn(255))
				spoilt[i/256] = true
			}
		}
		var want []api.Rec
		var places []int
		for i, l := range blocks {
			if x, err := block.Take(b[256*i : 256*i+256]); spoilt[i] && (err != 0 || int(x.No) != i) {
				places = append(places, i)
			} else {
				want = append(want, l...)
			}
		}
		if l, bad := Read(b); !slices.Equal(l, want) || !slices.Equal(bad, places) {
			t.Fatal(bad, places)
		}
	}
	b, blocks := log(r, 100)
	moved := slices.Concat(b[256:512], b[256:512], b[:256], b[768:1024])
	if l, bad := Read(moved); !slices.Equal(l, slices.Concat(blocks[1], blocks[3])) || !slices.Equal(bad, []int{0, 2}) {
		t.Error("a block in another place is not good", bad)
	}
}

func TestScan(t *testing.T) { // P3703, P3706
	r := rand.New(rand.NewSource(2))
	for range 50 {
		b, blocks := log(r, 1+r.Intn(80))
		junk := make([]byte, r.Intn(600))
		for i := range junk {
			for junk[i] == 0 || junk[i] == 76 {
				junk[i] = byte(r.Int())
			}
		}
		l := Scan(slices.Concat(junk, b[:256], junk, b[256:], junk))
		if len(l) != len(blocks) || Gaps(l) != 0 {
			t.Fatal(len(l), len(blocks))
		}
		for i, f := range l {
			at := len(junk) + 256*i
			if i > 0 {
				at += len(junk)
			}
			if f.At != at || int(f.Block.No) != i || !slices.Equal(Records(f.Block), blocks[i]) {
				t.Fatal(i, f.At, at)
			}
		}
	}
	// A block in whose middle another one seems to begin is taken whole.
	inner, _ := block.Put(api.Block{No: 9, L: []api.Entry{{Key: true, Rec: api.Rec{Time: 76<<24 | 76, V: [12]int32{76, 76}}}}})
	if l := Scan(slices.Concat([]byte{76, 1}, inner, inner[:255])); len(l) != 1 || l[0].At != 2 || l[0].Block.No != 9 {
		t.Error(l)
	}
	wrong := bytes.Clone(inner[:254])
	wrong[0] = 75
	if l := Scan(crc.Seal(wrong)); len(l) != 0 {
		t.Error("sealed, but no block", l)
	}
	if l := Scan(inner); len(l) != 1 || l[0].At != 0 {
		t.Error("at the end", l)
	}
	if len(Scan(nil)) != 0 || len(Scan(inner[:255])) != 0 {
		t.Error("short")
	}
}

func TestGaps(t *testing.T) { // P3703
	of := func(l ...uint32) []Found {
		var out []Found
		for _, n := range l {
			out = append(out, Found{Block: api.Block{No: n}})
		}
		return out
	}
	for i, c := range []struct {
		l    []Found
		want int
	}{
		{nil, 0}, {of(7), 0}, {of(0, 1, 2), 0}, {of(0, 2), 1}, {of(5, 9, 3, 3, 4, 10), 3 + 5}, {of(0, 1<<32-1), 1<<32 - 2}, {of(1<<32-1, 0, 1<<32-1), 1<<32 - 2},
	} {
		if Gaps(c.l) != c.want {
			t.Error(i, Gaps(c.l))
		}
	}
}
