package decim

import (
	"slices"

	"landfall/api"
)

// first keeps the first error.
type first struct {
	made bool
	err  api.Errno
}

func (f *first) keep(e api.Errno) {
	if f.err == api.OK {
		f.err = e
	}
}

// Pen writes fields.
type Pen struct {
	first
	l []string
}

// Row is a pen that has written nothing.
func Row() *Pen {
	p := &Pen{}
	p.made = true
	return p
}

func (p *Pen) right() bool { return p != nil && p.made }

// Num writes a number.
func (p *Pen) Num(n api.Num, c api.Col) { p.Text(Put(n, c)) }

// Angle writes an angle's two fields.
func (p *Pen) Angle(n api.Num, lat bool) {
	s, side, err := Angle(n, lat)
	p.Text(s, err)
	p.Text(side, api.OK)
}

// Text writes s, and keeps e.
func (p *Pen) Text(s string, e api.Errno) {
	if !p.right() {
		return
	}
	p.keep(e)
	p.l = append(p.l, s)
}

// Done is all fields, or the first error.
func (p *Pen) Done() ([]string, api.Errno) {
	if !p.right() {
		return nil, api.ErrArg
	}
	if p.err != api.OK {
		return nil, p.err
	}
	return slices.Clone(p.l), api.OK
}

// Eye reads fields.
type Eye struct {
	first
	l []string
}

// Look is an eye that has read nothing.
func Look(l []string) *Eye {
	r := &Eye{l: slices.Clone(l)}
	r.made = true
	return r
}

func (r *Eye) right() bool { return r != nil && r.made }

// Num reads a number.
func (r *Eye) Num(c api.Col) api.Num {
	if !r.right() {
		return api.Num{}
	}
	n, err := Take(r.Text(), c)
	r.keep(err)
	return n
}

// Angle reads an angle's two fields.
func (r *Eye) Angle(lat bool) api.Num {
	if !r.right() {
		return api.Num{}
	}
	var both [2]string
	for i := range 2 {
		both[i] = r.Text()
	}
	n, err := TakeAngle(both[0], both[1], lat)
	r.keep(err)
	return n
}

// Text reads a field as it is; an empty one, and ErrForm, where there is none.
func (r *Eye) Text() string {
	if !r.right() {
		return ""
	}
	if len(r.l) == 0 {
		r.keep(api.ErrForm)
		return ""
	}
	s := r.l[0]
	r.l = r.l[1:]
	return s
}

// Fail keeps an error.
func (r *Eye) Fail(e api.Errno) {
	if r.right() {
		r.keep(e)
	}
}

// Left is how many fields are left.
func (r *Eye) Left() int {
	if !r.right() {
		return 0
	}
	return len(r.l)
}

// Err is the first error.
func (r *Eye) Err() api.Errno {
	if !r.right() {
		return api.ErrArg
	}
	return r.err
}
