package rec

import (
	"bytes"
	"encoding/binary"
	"math/rand"
	"testing"

	"landfall/api"
	"landfall/vary"
)

func some(r *rand.Rand) api.Rec {
	x := api.Rec{Time: r.Uint32()}
	for i := range x.V {
		x.V[i] = int32(r.Uint32()) >> r.Intn(32)
		if r.Intn(6) == 0 {
			x.V[i] = []int32{1<<31 - 1, -1 << 31, 0}[r.Intn(3)]
		}
	}
	return x
}

// next is a record in which some of was changed.
func next(r *rand.Rand, was api.Rec) api.Rec {
	is := was
	is.Time += r.Uint32() >> r.Intn(32)
	for i, v := range some(r).V {
		if r.Intn(3) == 0 {
			is.V[i] = v
		}
	}
	return is
}

func TestKey(t *testing.T) { // P3402, P3404
	r := rand.New(rand.NewSource(1))
	for range 1000 {
		x := some(r)
		want := binary.LittleEndian.AppendUint32(nil, x.Time)
		for _, v := range x.V {
			want = binary.LittleEndian.AppendUint32(want, uint32(v))
		}
		b := Key(x)
		if !bytes.Equal(b, want) || len(b) != 52 {
			t.Fatal(x, b)
		}
		if got, n, err := TakeKey(append(b, 1, 2, 3)); got != x || n != 52 || err != 0 {
			t.Fatal(x, got, n, err)
		}
		if got, n, err := TakeKey(b[:r.Intn(52)]); got != (api.Rec{}) || n != 0 || err != api.ErrShort {
			t.Fatal(got, n, err)
		}
	}
	if _, n, err := TakeKey(nil); n != 0 || err != api.ErrShort {
		t.Error(err)
	}
}

func TestDelta(t *testing.T) { // P3403, P3404, P3405
	r := rand.New(rand.NewSource(2))
	for range 5000 {
		was := some(r)
		is := next(r, was)
		want := vary.Put(uint64(is.Time - was.Time))
		mask, more := uint64(0), []byte{}
		for i := range is.V {
			if is.V[i] != was.V[i] {
				mask |= 1 << i
				more = append(more, vary.Put(vary.Zig(int64(is.V[i])-int64(was.V[i])))...)
			}
		}
		want = append(append(want, vary.Put(mask)...), more...)
		b := Delta(was, is)
		if !bytes.Equal(b, want) || len(b) > 67 {
			t.Fatal(was, is, b)
		}
		if got, n, err := TakeDelta(was, append(bytes.Clone(b), 0, 200, 7)); got != is || n != len(b) || err != 0 {
			t.Fatal(was, is, got, n, err)
		}
		for i := range b {
			if got, n, err := TakeDelta(was, b[:i]); got != (api.Rec{}) || n != 0 || err != api.ErrShort {
				t.Fatal(i, err)
			}
		}
		b[r.Intn(len(b))] = byte(r.Int())
		if got, n, err := TakeDelta(was, b); err == 0 && !bytes.Equal(Delta(was, got), b[:n]) {
			t.Fatal(was, b, got)
		}
	}
	x := some(r)
	if !bytes.Equal(Delta(x, x), []byte{0, 0}) {
		t.Error("example")
	}
	y := x
	y.Time += 127
	if len(Delta(x, y)) != 2 {
		t.Error("size")
	}
	far, near := api.Rec{Time: 5}, api.Rec{Time: 4}
	for i := range far.V {
		far.V[i], near.V[i] = 1<<31-1, -1<<31
	}
	for _, c := range [][2]api.Rec{{far, near}, {near, far}} {
		b := Delta(c[0], c[1])
		if got, n, err := TakeDelta(c[0], b); got != c[1] || n != len(b) || err != 0 || len(b) > 67 {
			t.Error(len(b), err)
		}
	}
	if len(Delta(far, near)) != 67 {
		t.Error("the most")
	}
}

func TestTakeDeltaWrong(t *testing.T) { // P3403
	join := func(l ...[]byte) []byte { return bytes.Join(l, nil) }
	u := vary.Put
	was := api.Rec{V: [12]int32{1<<31 - 1, -1 << 31, 5}}
	z := func(n int64) []byte { return u(vary.Zig(n)) }
	for i, c := range []struct {
		b    []byte
		want api.Errno
	}{
		{nil, api.ErrShort}, {u(1 << 32), api.ErrRange}, {join(u(1<<32), []byte{128, 0}), api.ErrRange}, {[]byte{128, 0}, api.ErrForm}, {u(1<<32 - 1), api.ErrShort}, {join(u(0), u(4096)), api.ErrRange}, {join(u(0), []byte{129, 0}), api.ErrForm},
		{join(u(0), u(1)), api.ErrShort}, {join(u(0), u(1), z(0)), api.ErrRange}, {join(u(0), u(1), z(1)), api.ErrRange}, {join(u(0), u(2), z(-1)), api.ErrRange}, {join(u(0), u(4), z(1<<31-5)), api.ErrRange}, {join(u(0), u(4), z(-1<<63)), api.ErrRange}, {join(u(0), u(4), z(1<<63-1)), api.ErrRange}, {join(u(0), u(2), z(1<<63-1)), api.ErrRange}, {join(u(0), u(1), z(-1<<63)), api.ErrRange},
		{join(u(0), u(5), z(-1), []byte{128, 0}), api.ErrForm}, {join(u(0), u(5), z(1), []byte{128, 0}), api.ErrRange},
		{join(u(0), u(2), z(1<<32-1)), 0}, {join(u(0), u(1), z(-1<<32+1)), 0}, {join(u(0), u(4), z(1<<31-6)), 0},
	} {
		got, n, err := TakeDelta(was, c.b)
		if err != c.want || err != 0 && (n != 0 || got != api.Rec{}) {
			t.Error(i, n, err)
		}
	}
	if got, _, err := TakeDelta(api.Rec{Time: 1<<32 - 1}, []byte{2, 0}); err != 0 || got.Time != 1 {
		t.Error("round", got)
	}
}
