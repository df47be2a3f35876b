package fuse

import (
	"math/rand"
	"testing"

	"landfall/api"
	"landfall/fix"
	"landfall/quat"
	"landfall/small"
	"landfall/turn"
	"landfall/unit"
	"landfall/vec"
)

func number(r *rand.Rand) int32 {
	if r.Intn(10) == 0 {
		return []int32{0, 1, -1, 1 << 30, -1 << 30, 1<<31 - 1, -1 << 31, 65536}[r.Intn(8)]
	}
	return int32(r.Uint32()) >> r.Intn(32)
}

func someV(r *rand.Rand) api.Vec { return api.Vec{X: number(r), Y: number(r), Z: number(r)} }

// accel is a vector that is often nearly of length one.
func accel(r *rand.Rand) api.Vec {
	if r.Intn(4) == 0 {
		return someV(r)
	}
	return api.Vec{X: int32(r.Intn(131072) - 65536), Y: int32(r.Intn(131072) - 65536), Z: int32(r.Intn(131072) - 65536)}
}

func someQ(r *rand.Rand) api.Quat {
	q := api.Quat{W: number(r), X: number(r), Y: number(r), Z: number(r)}
	if r.Intn(4) > 0 {
		q, _ = unit.Make(q)
	}
	return q
}

func TestError(t *testing.T) { // P4202
	r := rand.New(rand.NewSource(1))
	m := func(a, b int32) int64 { return fix.Round(int64(a)*int64(b), 30) }
	cut := func(n int64) int32 { c, _ := fix.Clamp(fix.Round(n, 14)); return c }
	good := 0
	for range 20000 {
		q, a := someQ(r), accel(r)
		e, ok := Error(q, a)
		l := vec.Length(a)
		if ok != (l >= 32768 && l <= 98304) {
			t.Fatal(a, ok)
		}
		want := api.Vec{}
		if ok {
			good++
			u, _ := vec.Unit(a)
			v := turn.Up(q)
			want = api.Vec{X: cut(m(u.Y, v.Z) - m(u.Z, v.Y)), Y: cut(m(u.Z, v.X) - m(u.X, v.Z)), Z: cut(m(u.X, v.Y) - m(u.Y, v.X))}
		}
		if e != want {
			t.Fatal(q, a, e, want)
		}
	}
	if good < 1000 {
		t.Error(good)
	}
	for n, want := range map[int32]bool{32767: false, 32768: true, 98304: true, 98305: false, 0: false, -32768: true} {
		if _, ok := Error(quat.One(), api.Vec{Z: n}); ok != want {
			t.Error(n, ok)
		}
	}
	if e, ok := Error(quat.One(), api.Vec{Y: 65536}); e != (api.Vec{X: 65536}) || !ok {
		t.Error(e)
	}
}

// step is Step as the document tells it.
func step(s State, gyro, accel api.Vec, dt int32) State {
	cuts := 0
	keep := func(v api.Vec, n int) api.Vec { cuts += n; return v }
	rate := keep(vec.Sub(gyro, s.Bias))
	if e, ok := Error(s.Q, accel); ok {
		rate = keep(vec.Add(rate, keep(vec.Scale(e, 65536))))
		s.Bias = keep(vec.Sub(s.Bias, keep(vec.Scale(keep(vec.Scale(e, 655)), dt))))
	}
	limit := func(n int32) int32 {
		if n > 16384 {
			cuts++
			return 16384
		}
		if n < -16384 {
			cuts++
			return -16384
		}
		return n
	}
	s.Bias = api.Vec{X: limit(s.Bias.X), Y: limit(s.Bias.Y), Z: limit(s.Bias.Z)}
	q, n := turn.Step(s.Q, rate, dt)
	s.Q = q
	s.Steps++
	s.Cuts += cuts + n
	return s
}

func TestStep(t *testing.T) { // P4203, P4205
	r := rand.New(rand.NewSource(2))
	cut := 0
	for range 2000 {
		s := State{Q: someQ(r), Bias: someV(r), Steps: r.Intn(1000), Cuts: r.Intn(1000)}
		if r.Intn(2) == 0 {
			s = Start()
		}
		for range 20 {
			gyro, a, dt := someV(r), accel(r), number(r)
			if r.Intn(2) == 0 {
				dt = int32(r.Intn(65537))
			}
			want := step(s, gyro, a, dt)
			got := Step(s, gyro, a, dt)
			if got != want {
				t.Fatal(s, gyro, a, dt, got, want)
			}
			cut += got.Cuts - s.Cuts
			s = got
			_, ok := small.Pack(s.Q)
			b := s.Bias
			if unit.Off(s.Q) > 1<<33 || !ok || Word(s) == 0 || max(b.X, -b.X, b.Y, -b.Y, b.Z, -b.Z) > Limit {
				t.Fatal(s)
			}
		}
	}
	if cut == 0 {
		t.Error("nothing was cut")
	}
}

func TestWord(t *testing.T) { // P4204
	if Start() != (State{Q: quat.One()}) || Word(Start()) != 537395712 {
		t.Error("Start")
	}
	for _, q := range []api.Quat{{}, {W: 5}, {W: 1<<31 - 1}} {
		if Word(State{Q: q}) != 0 {
			t.Error(q)
		}
	}
	if Gain != 65536 || Slow != 655 || Limit != 16384 || Least != 32768 || Most != 98304 {
		t.Error("gains")
	}
}

func TestRest(t *testing.T) { // P4206
	for _, bias := range []api.Vec{{}, {X: 100, Y: -16384, Z: 16384}} {
		s := Start()
		s.Bias = bias
		for i := range 100 {
			next := Step(s, bias, api.Vec{Z: int32(32768 + 655*i)}, int32(i*655))
			s.Steps++
			if next != s {
				t.Fatal(next, s)
			}
		}
	}
	// Who leans is led to where up is felt.
	s := Start()
	for range 3000 {
		s = Step(s, api.Vec{}, api.Vec{Y: 30000, Z: 58000}, 655)
	}
	if e, ok := Error(s.Q, api.Vec{Y: 30000, Z: 58000}); !ok || max(e.X, -e.X, e.Y, -e.Y) > 2000 {
		t.Error(e, s)
	}
}
