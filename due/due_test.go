package due

import (
	"math/rand"
	"slices"
	"testing"
)

const far = 1 << 40

func TestQueue(t *testing.T) { // P4302, P4303
	q := New()
	next := func(now, id, at int, ok bool) {
		t.Helper()
		if a, b, c := q.Next(now); a != id || b != at || c != ok {
			t.Error(now, a, b, c)
		}
	}
	if !q.Set(3, 5, 10) {
		t.Error("Set")
	}
	next(4, 0, 0, false)
	next(5, 3, 5, true)
	if at, ok := q.When(3); at != 15 || !ok {
		t.Error("example", at)
	}
	next(14, 0, 0, false)
	next(-1, 0, 0, false)
	q.Set(7, 15, 0)
	q.Set(1, 20, 0)
	if !slices.Equal(q.All(), [][2]int{{3, 15}, {7, 15}, {1, 20}}) || q.Len() != 3 {
		t.Error(q.All())
	}
	next(1000, 3, 15, true)
	next(1000, 7, 15, true)
	next(24, 1, 20, true)
	if q.Len() != 1 {
		t.Error(q.Len())
	}
	next(30, 3, 25, true)
	if !q.Set(3, 0, 0) || q.Len() != 1 {
		t.Error("just this timer")
	}
	next(0, 3, 0, true)
	next(far, 0, 0, false)
	if at, ok := q.When(3); at != 0 || ok || q.Unset(3) {
		t.Error("none any more")
	}
	if !q.Set(0, far, far) || q.Unset(1) || !q.Set(15, far, 1) || !q.Unset(15) || q.Unset(15) || q.Unset(-1) || q.Unset(99) {
		t.Error("Unset")
	}
	next(1<<63-1, 0, far, true)
	next(1<<63-1, 0, 0, false)
	if at, ok := q.When(0); at != 2*far || !ok {
		t.Error("above 2^40 now counts as that", at)
	}
	for _, c := range [][3]int{{-1, 0, 0}, {16, 0, 0}, {0, -1, 0}, {0, far + 1, 0}, {0, 0, -1}, {0, 0, far + 1}, {1 << 62, 0, 0}} {
		if q.Set(c[0], c[1], c[2]) {
			t.Error(c)
		}
	}
	if at, ok := q.When(0); at != 2*far || !ok || q.Len() != 1 {
		t.Error("what is wrong changes nothing")
	}
}

func TestOrder(t *testing.T) { // P4304
	r := rand.New(rand.NewSource(1))
	for range 200 {
		q := New()
		type one struct{ at, every int }
		model := map[int]one{}
		now := 0
		for range 200 {
			id := r.Intn(16)
			switch r.Intn(4) {
			case 0:
				x := one{r.Intn(200), r.Intn(30)}
				q.Set(id, x.at, x.every)
				model[id] = x
			case 1:
				_, had := model[id]
				if q.Unset(id) != had {
					t.Fatal(id)
				}
				delete(model, id)
			case 2:
				now += r.Intn(20)
				last := -1
				for {
					first := -1
					for i := range 16 {
						if x, ok := model[i]; ok && x.at <= now && (first < 0 || x.at < model[first].at) {
							first = i
						}
					}
					id, at, ok := q.Next(now)
					if ok != (first >= 0) || !ok && (id != 0 || at != 0) {
						t.Fatal(id, at, ok)
					}
					if !ok {
						break
					}
					if id != first || at != model[id].at || at < last {
						t.Fatal(id, at, first)
					}
					last = at
					if x := model[id]; x.every > 0 {
						model[id] = one{x.at + x.every, x.every}
					} else {
						delete(model, id)
					}
				}
			}
			var want [][2]int
			for i, x := range model {
				want = append(want, [2]int{i, x.at})
			}
			slices.SortFunc(want, func(a, b [2]int) int { return 100*(a[1]-b[1]) + a[0] - b[0] })
			if !slices.Equal(q.All(), want) || q.Len() != len(model) {
				t.Fatal(q.All(), want)
			}
		}
	}
	q := New()
	q.Set(2, 7, 7)
	count := 0
	for {
		if _, _, ok := q.Next(1000); !ok {
			break
		}
		count++
	}
	if count != 1000/7 {
		t.Error("as often as every goes into the time", count)
	}
}

func TestNoQueue(t *testing.T) { // P4301
	for _, q := range []*Queue{nil, {}} {
		at, ok := q.When(1)
		id, due, ok2 := q.Next(5)
		if q.Set(1, 1, 1) || q.Unset(1) || at != 0 || ok || id != 0 || due != 0 || ok2 || q.Len() != 0 || len(q.All()) != 0 {
			t.Error("no queue")
		}
	}
	q := New()
	q.Set(1, 1, 1)
	q.All()[0][0] = 9
	if q.All()[0][0] != 1 {
		t.Error("shared")
	}
}
