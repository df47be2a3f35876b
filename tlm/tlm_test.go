package tlm

import (
	"bytes"
	"math/rand"
	"slices"
	"testing"

	"landfall/api"
	"landfall/crc"
	"landfall/schema"
)

func same(a, b api.Packet) bool {
	return a.Seq == b.Seq && a.Sys == b.Sys && a.Comp == b.Comp && a.Msg.Id == b.Msg.Id && slices.Equal(a.Msg.V, b.Msg.V)
}

// some is a packet with some numbers.
func some(r *rand.Rand) api.Packet {
	ids := schema.Ids()
	p := api.Packet{Seq: r.Intn(256), Sys: r.Intn(256), Comp: r.Intn(256), Msg: api.Msg{Id: ids[r.Intn(len(ids))]}}
	for _, part := range schema.Parts(p.Msg.Id) {
		for range max(1, part.Many) {
			n := int64(r.Uint64()) >> (64 - 8*part.Size)
			if !part.Signed {
				n &= int64(uint64(1)<<63-1) >> max(0, 63-8*part.Size)
			}
			p.Msg.V = append(p.Msg.V, n)
		}
	}
	return p
}

func TestSize(t *testing.T) { // P3202
	if Size(0) != 17 {
		t.Error("example")
	}
	for id := -5; id < 300; id++ {
		want := 0
		if schema.Name(id) != "" {
			want = schema.Width(id) + 8
		}
		if Size(id) != want {
			t.Error(id)
		}
	}
}

func TestPut(t *testing.T) { // P3202
	p := api.Packet{Seq: 1, Sys: 2, Comp: 3, Msg: api.Msg{Id: 42, V: []int64{513}}}
	b, err := Put(p)
	c := crc.Of([]byte{2, 1, 2, 3, 42, 1, 2, schema.Extra(42)})
	if err != 0 || !bytes.Equal(b, []byte{254, 2, 1, 2, 3, 42, 1, 2, byte(c), byte(c >> 8)}) {
		t.Error(b, err)
	}
	good := api.Msg{Id: 42, V: []int64{5}}
	for i, c := range []struct {
		p    api.Packet
		want api.Errno
	}{
		{api.Packet{Seq: -1, Msg: good}, api.ErrArg}, {api.Packet{Seq: 256, Msg: good}, api.ErrArg}, {api.Packet{Sys: -1, Msg: good}, api.ErrArg}, {api.Packet{Sys: 256, Msg: good}, api.ErrArg}, {api.Packet{Comp: -1, Msg: good}, api.ErrArg}, {api.Packet{Comp: 256, Msg: good}, api.ErrArg}, {api.Packet{Comp: 256, Msg: api.Msg{Id: 3}}, api.ErrArg},
		{api.Packet{Msg: api.Msg{Id: 3}}, api.ErrKind}, {api.Packet{Msg: api.Msg{Id: 42}}, api.ErrArg}, {api.Packet{Msg: api.Msg{Id: 42, V: []int64{65536}}}, api.ErrRange},
	} {
		if b, err := Put(c.p); err != c.want || len(b) != 0 {
			t.Error(i, err)
		}
	}
}

// sealed is a packet with its right sum.
func sealed(inner ...byte) []byte {
	c := crc.Of(inner, []byte{schema.Extra(int(inner[4]))})
	return append([]byte{254}, append(inner, byte(c), byte(c>>8))...)
}

func TestTake(t *testing.T) { // P3203
	good := sealed(2, 1, 2, 3, 42, 5, 0)
	set := func(at int, c byte) []byte {
		b := bytes.Clone(good)
		b[at] = c
		return b
	}
	for i, c := range []struct {
		b    []byte
		n    int
		want api.Errno
	}{
		{nil, 0, api.ErrShort}, {[]byte{253}, 0, api.ErrForm}, {[]byte{254}, 0, api.ErrShort}, {good[:5], 0, api.ErrShort}, {good[:6], 0, api.ErrShort}, {good[:9], 0, api.ErrShort},
		{set(5, 3), 0, api.ErrKind}, {set(5, 3)[:6], 0, api.ErrKind}, {set(1, 3), 0, api.ErrForm}, {set(1, 1)[:6], 0, api.ErrForm}, {set(2, 9), 0, api.ErrSum}, {set(6, 9), 0, api.ErrSum}, {set(8, good[8]+1), 0, api.ErrSum}, {set(9, good[9]+1), 0, api.ErrSum},
		{sealed(12, 0, 0, 0, 2, 255, 255, 255, 255, 255, 255, 255, 255, 0, 0, 0, 0), 20, api.ErrRange},
	} {
		if p, n, err := Take(c.b); err != c.want || n != c.n || !same(p, api.Packet{}) {
			t.Error(i, n, err)
		}
	}
	if p, n, err := Take(good); err != 0 || n != 10 || !same(p, api.Packet{Seq: 1, Sys: 2, Comp: 3, Msg: api.Msg{Id: 42, V: []int64{5}}}) {
		t.Error(p, n, err)
	}
}

func TestBack(t *testing.T) { // P3204, P3205
	r := rand.New(rand.NewSource(1))
	for range 3000 {
		p := some(r)
		b, err := Put(p)
		if err != 0 || len(b) != Size(p.Msg.Id) {
			t.Fatal(p, err)
		}
		tail := make([]byte, r.Intn(10))
		r.Read(tail)
		whole := append(bytes.Clone(b), tail...)
		was := bytes.Clone(whole)
		got, n, err := Take(whole)
		if err != 0 || n != len(b) || !same(got, p) || !bytes.Equal(whole, was) {
			t.Fatal(p, got, n, err)
		}
		if again, err := Put(got); err != 0 || !bytes.Equal(again, b) {
			t.Fatal(b, again)
		}
		for i := range b {
			if _, n, err := Take(b[:i]); err != api.ErrShort || n != 0 {
				t.Fatal(i, err)
			}
		}
		for range r.Intn(3) {
			whole[r.Intn(min(len(whole), 8))] = byte(r.Int())
		}
		cut := whole[:r.Intn(len(whole)+1)]
		p1, n1, e1 := Take(cut)
		if p2, n2, e2 := Take(whole); e1 != api.ErrShort && (!same(p1, p2) || n1 != n2 || e1 != e2) {
			t.Fatal(e1, e2)
		}
	}
}

func TestBurst(t *testing.T) { // P3206
	r := rand.New(rand.NewSource(2))
	for range 20000 {
		b, _ := Put(some(r))
		from, to := 48, 8*len(b)-16
		if r.Intn(4) == 0 {
			from, to = 8*len(b)-16, 8*len(b)
		}
		mask := 1 + r.Intn(65535)
		at := from + r.Intn(to-from)
		turned := false
		for k := range 16 {
			if mask>>k&1 == 1 && at+k < to {
				b[(at+k)/8] ^= 1 << ((at + k) % 8)
				turned = true
			}
		}
		if p, n, err := Take(b); turned && (err != api.ErrSum || n != 0 || !same(p, api.Packet{})) {
			t.Fatal(at, mask, err)
		}
	}
}
