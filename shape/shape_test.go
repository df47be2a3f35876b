package shape

import (
	"bytes"
	"math/rand"
	"slices"
	"testing"

	"landfall/api"
)

func TestFields(t *testing.T) { // P1402
	for size := -2; size < 12; size++ {
		in := size >= 1 && size <= 8
		for _, f := range []api.Field{Any(size, true), Any(size, false), U(size, 1), I(size, -1, 1)} {
			if in != (f != api.Field{}) || in != Right([]api.Field{f}) {
				t.Error(size, f)
			}
			if w := Width([]api.Field{f, f}); in && w != 2*size || !in && w != 0 {
				t.Error(size, w)
			}
		}
		if !in {
			continue
		}
		hi := int64(1<<(8*min(size, 7)) - 1)
		if size == 8 {
			hi = 1<<63 - 1
		}
		top := int64(1)<<(8*size-2)*2 - 1
		for f, want := range map[api.Field]bool{
			{Size: size, Lo: 0, Hi: hi}:                                true,
			{Size: size, Lo: hi, Hi: hi}:                               true,
			{Size: size, Lo: 1, Hi: 0}:                                 false,
			{Size: size, Lo: -1, Hi: 0}:                                false,
			{Size: size, Lo: 0, Hi: -1}:                                false,
			{Size: size, Lo: -1 << 63, Hi: 1<<63 - 1}:                  false,
			{Size: size, Lo: 0, Hi: max(hi, hi+1)}:                     size == 8,
			{Size: size, Signed: true, Lo: -top - 1, Hi: top}:          true,
			{Size: size, Signed: true, Lo: top, Hi: top}:               true,
			{Size: size, Signed: true, Lo: top, Hi: top - 1}:           false,
			{Size: size, Signed: true, Lo: 0, Hi: max(top, top+1)}:     size == 8,
			{Size: size, Signed: true, Lo: min(-top-1, -top-2), Hi: 0}: size == 8,
		} {
			if Right([]api.Field{f}) != want {
				t.Error(f, want)
			}
		}
		if Any(size, false) != (api.Field{Size: size, Hi: hi}) || Any(size, true) != (api.Field{Size: size, Signed: true, Lo: -top - 1, Hi: top}) {
			t.Error(size)
		}
		if U(size, 77) != (api.Field{Size: size, Hi: 77}) || I(size, -5, 77) != (api.Field{Size: size, Signed: true, Lo: -5, Hi: 77}) {
			t.Error(size)
		}
	}
	if !Right(nil) || Width(nil) != 0 || Right([]api.Field{U(1, 1), U(1, 256)}) || Width([]api.Field{U(1, 1), U(1, 256)}) != 0 || Right([]api.Field{U(1, -1)}) {
		t.Error("edges")
	}
}

func TestPut(t *testing.T) { // P1403
	if b, err := Put([]api.Field{U(2, 999)}, []int64{513}); !bytes.Equal(b, []byte{1, 2}) || err != api.OK {
		t.Error("example")
	}
	for _, c := range []struct {
		l    []api.Field
		v    []int64
		want api.Errno
	}{
		{[]api.Field{U(2, 999)}, []int64{1000}, api.ErrRange}, {[]api.Field{U(2, 999)}, []int64{-1}, api.ErrRange},
		{[]api.Field{U(2, 999)}, nil, api.ErrArg}, {[]api.Field{U(2, 999)}, []int64{5000, 1}, api.ErrArg}, {nil, []int64{1}, api.ErrArg},
		{[]api.Field{{}}, []int64{0}, api.ErrArg}, {[]api.Field{U(1, 256)}, []int64{1}, api.ErrArg},
		{[]api.Field{U(1, 5), I(1, -3, 5)}, []int64{5, -4}, api.ErrRange}, {[]api.Field{U(1, 5), I(1, -3, 5)}, []int64{6, -3}, api.ErrRange},
		{[]api.Field{{Size: 1, Lo: 3, Hi: 3}}, []int64{2}, api.ErrRange}, {nil, nil, api.OK},
	} {
		if b, err := Put(c.l, c.v); err != c.want || len(b) != 0 {
			t.Error(c, b, err)
		}
	}
	if b, err := Put([]api.Field{U(1, 5), I(3, -3, 5), Any(8, false)}, []int64{5, -3, 1<<63 - 1}); err != 0 || !bytes.Equal(b, []byte{5, 253, 255, 255, 255, 255, 255, 255, 255, 255, 255, 127}) {
		t.Error(b, err)
	}
}

func TestTake(t *testing.T) { // P1404
	for _, c := range []struct {
		l    []api.Field
		b    []byte
		want api.Errno
	}{
		{[]api.Field{{}}, nil, api.ErrArg}, {[]api.Field{U(2, 9), U(1, 256)}, []byte{1}, api.ErrArg},
		{[]api.Field{U(2, 9)}, []byte{10}, api.ErrShort}, {[]api.Field{U(2, 9)}, nil, api.ErrShort}, {[]api.Field{U(2, 9)}, []byte{10, 0, 0}, api.ErrLong}, {nil, []byte{1}, api.ErrLong},
		{[]api.Field{U(2, 9)}, []byte{10, 0}, api.ErrRange}, {[]api.Field{U(2, 9)}, []byte{9, 1}, api.ErrRange},
		{[]api.Field{Any(8, false)}, []byte{0, 0, 0, 0, 0, 0, 0, 128}, api.ErrRange}, {[]api.Field{I(1, -3, 3)}, []byte{252}, api.ErrRange}, {[]api.Field{I(1, -3, 3)}, []byte{4}, api.ErrRange},
		{[]api.Field{{Size: 1, Lo: 3, Hi: 3}}, []byte{2}, api.ErrRange}, {nil, nil, api.OK},
	} {
		if v, err := Take(c.l, c.b); err != c.want || len(v) != 0 {
			t.Error(c, v, err)
		}
	}
	if v, err := Take([]api.Field{U(1, 5), I(3, -3, 5), Any(1, true)}, []byte{5, 253, 255, 255, 128}); err != 0 || !slices.Equal(v, []int64{5, -3, -128}) {
		t.Error(v, err)
	}
}

func TestBack(t *testing.T) { // P1405, P1401
	r := rand.New(rand.NewSource(1))
	for range 3000 {
		var l []api.Field
		var v []int64
		for range r.Intn(6) {
			f := Any(1+r.Intn(8), r.Intn(2) == 0)
			n := int64(r.Uint64()) >> (64 - 8*f.Size)
			if !f.Signed {
				n &= f.Hi
			}
			l, v = append(l, f), append(v, n)
		}
		b, err := Put(l, v)
		if err != api.OK || len(b) != Width(l) {
			t.Fatal(l, v, err)
		}
		was := bytes.Clone(b)
		got, err := Take(l, b)
		if err != api.OK || !slices.Equal(got, v) || !bytes.Equal(b, was) {
			t.Fatal(l, v, got, err)
		}
		r.Read(b)
		if got, err := Take(l, b); err == api.OK {
			if again, err := Put(l, got); err != api.OK || !bytes.Equal(again, b) {
				t.Fatal(l, b, got, again)
			}
		}
	}
}
