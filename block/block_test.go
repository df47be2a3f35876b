package block

import (
	"bytes"
	"math/rand"
	"slices"
	"testing"

	"landfall/api"
	"landfall/crc"
	"landfall/rec"
)

func same(a, b api.Block) bool { return a.No == b.No && slices.Equal(a.L, b.L) }

// some is a block that has room for its entries.
func some(r *rand.Rand) api.Block {
	b := api.Block{No: r.Uint32()}
	var x api.Rec
	for {
		x.Time += uint32(r.Intn(300))
		for range r.Intn(4) {
			x.V[r.Intn(12)] += int32(r.Uint32()) >> r.Intn(32)
		}
		l := append(b.L, api.Entry{Key: len(b.L) == 0 || r.Intn(5) == 0, Rec: x})
		if Size(l) > 248 || len(b.L) > 0 && r.Intn(20) == 0 {
			return b
		}
		b.L = l
	}
}

func TestLay(t *testing.T) { // P3502
	was, is := api.Rec{Time: 5, V: [12]int32{1, 2}}, api.Rec{Time: 9, V: [12]int32{1, 3}}
	if b := Lay(was, api.Entry{Key: true, Rec: is}); !bytes.Equal(b, append([]byte{75}, rec.Key(is)...)) {
		t.Error(b)
	}
	if b := Lay(was, api.Entry{Rec: is}); !bytes.Equal(b, []byte{68, 4, 2, 2}) {
		t.Error(b)
	}
	if Size(nil) != 0 || Size([]api.Entry{{Key: true}}) != 53 || Size([]api.Entry{{Rec: was}}) != len(Lay(api.Rec{}, api.Entry{Rec: was})) || Size([]api.Entry{{Key: true, Rec: was}, {Rec: is}, {Rec: is}}) != 53+4+3 {
		t.Error("Size")
	}
}

func TestPut(t *testing.T) { // P3502
	x := api.Rec{Time: 258}
	b, err := Put(api.Block{No: 0x04030201, L: []api.Entry{{Key: true, Rec: x}, {Rec: x}}})
	want := append([]byte{76, 2, 1, 2, 3, 4, 75, 2, 1}, make([]byte, 50)...)
	want = append(want, 68, 0, 0)
	want = append(want, make([]byte, 254-len(want))...)
	c := crc.Of(want)
	if err != 0 || !bytes.Equal(b, append(want, byte(c), byte(c>>8))) {
		t.Error(b, err)
	}
	full := []api.Entry{{Key: true}, {Key: true}, {Key: true}, {Key: true}}
	for range 12 {
		full = append(full, api.Entry{})
	}
	if Size(full) != 248 {
		t.Fatal(Size(full))
	}
	for i, c := range []struct {
		l    []api.Entry
		want api.Errno
	}{
		{nil, api.ErrArg}, {[]api.Entry{{}}, api.ErrArg}, {append([]api.Entry{{}}, full...), api.ErrArg}, {append(slices.Clone(full), api.Entry{}), api.ErrFull}, {full, 0},
	} {
		if b, err := Put(api.Block{L: c.l}); err != c.want || err != 0 && len(b) != 0 || err == 0 && len(b) != 256 {
			t.Error(i, err)
		}
	}
}

// sealed is a block of these bytes, with its right sum.
func sealedOf(l ...[]byte) []byte {
	b := bytes.Join(l, nil)
	return crc.Seal(append(b, make([]byte, 254-len(b))...))
}

func TestTake(t *testing.T) { // P3503
	head := func(first, many byte) []byte { return []byte{first, many, 7, 0, 0, 0} }
	k := append([]byte{75}, rec.Key(api.Rec{Time: 3})...)
	d := []byte{68, 1, 0}
	good := sealedOf(head(76, 2), k, d)
	if b, err := Take(good); err != 0 || !same(b, api.Block{No: 7, L: []api.Entry{{Key: true, Rec: api.Rec{Time: 3}}, {Rec: api.Rec{Time: 4}}}}) {
		t.Error(b, err)
	}
	turned := bytes.Clone(good)
	turned[100] ^= 1
	for i, c := range []struct {
		s    []byte
		want api.Errno
	}{
		{nil, api.ErrShort}, {good[:255], api.ErrShort}, {append(bytes.Clone(good), 0), api.ErrLong}, {make([]byte, 257), api.ErrLong}, {turned, api.ErrSum}, {make([]byte, 256), api.ErrSum},
		{sealedOf(head(77, 2), k, d), api.ErrForm}, {sealedOf(head(76, 0)), api.ErrForm}, {sealedOf(head(76, 0), k), api.ErrForm}, {sealedOf(head(76, 1), d), api.ErrForm}, {sealedOf(head(76, 2), k, []byte{0}), api.ErrForm}, {sealedOf(head(76, 3), k, d), api.ErrForm}, {sealedOf(head(76, 2), k, []byte{74, 1, 0}), api.ErrForm},
		{sealedOf(head(76, 1), k, d), api.ErrForm}, {sealedOf(head(76, 1), k, []byte{0, 0, 1}), api.ErrForm}, {sealedOf(head(76, 2), k, []byte{68, 128, 0}), api.ErrForm}, {sealedOf(head(76, 2), k, []byte{68, 0, 1, 0}), api.ErrForm}, {sealedOf(head(76, 5), k, k, k, k, k[:36]), api.ErrForm}, {sealedOf(head(76, 255), k, d, d), api.ErrForm},
		{sealedOf(head(76, 6), k, k, k, k, d, bytes.Repeat([]byte{255}, 248-215)), api.ErrForm},
	} {
		if b, err := Take(c.s); err != c.want || !same(b, api.Block{}) {
			t.Error(i, err)
		}
	}
}

func TestBack(t *testing.T) { // P3504, P3505
	r := rand.New(rand.NewSource(1))
	for range 2000 {
		b := some(r)
		s, err := Put(b)
		if err != 0 || len(s) != 256 {
			t.Fatal(err)
		}
		got, err := Take(s)
		if err != 0 || !same(got, b) {
			t.Fatal(b, got, err)
		}
		if again, err := Put(got); err != 0 || !bytes.Equal(again, s) {
			t.Fatal(err)
		}
		mask, at := 1+r.Intn(65535), r.Intn(8*256-15)
		burst := bytes.Clone(s)
		for k := range 16 {
			burst[(at+k)/8] ^= byte(mask >> k & 1 << ((at + k) % 8))
		}
		if got, err := Take(burst); err != api.ErrSum || !same(got, api.Block{}) {
			t.Fatal(at, mask, err)
		}
		s[r.Intn(254)] = byte(r.Int())
		s = crc.Seal(s[:254])
		if got, err := Take(s); err == 0 {
			if again, err := Put(got); err != 0 || !bytes.Equal(again, s) {
				t.Fatal(err)
			}
		} else if err != api.ErrForm {
			t.Fatal(err)
		}
	}
}
