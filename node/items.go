package node

import (
	"landfall/api"
	"landfall/decim"
	"landfall/fix"
	"landfall/fuse"
)

const (
	msgPing    = 4
	msgSample  = 26
	msgRequest = 66
	msgAnswer  = 77
	done       = 0
	failed     = 3
	fixed      = 2    // the least Fix that tells a place
	late       = 1000 // how much later the next sample may be
	most31     = 1<<31 - 1
)

// take does what an item asks for.
func (j *job) take(x api.Item) {
	j.tell(api.Event{Kind: api.EvGot, Item: x})
	if x.Odd {
		return
	}
	switch x.Proto {
	case api.ProtoUbx:
		j.takeUbx(x.Ubx)
	case api.ProtoNmea:
		j.takeNmea(x.Nmea)
	case api.ProtoTlm:
		j.takeTlm(x.Tlm)
	}
}

func (j *job) takeUbx(m api.Ubx) {
	switch m.Kind {
	case api.UbxAck:
		j.answers.Hear(m.Ack)
	case api.UbxPvt:
		if m.Pvt.Fix >= fixed {
			j.place = Place{true, int32(m.Pvt.Lat), int32(m.Pvt.Lon), int32(m.Pvt.Height)}
		}
	}
}

func (j *job) takeNmea(m api.Nmea) {
	switch m.Kind {
	case api.NmeaGga:
		j.takeFix(m.Gga)
	case api.NmeaGsv:
		if l, ok := j.sky.Add(m.Gsv); ok {
			j.views = len(l)
		}
	}
}

func (j *job) takeFix(g api.Gga) {
	if g.Quality <= 0 || !g.Lat.Is || !g.Lon.Is {
		return
	}
	p := Place{true, int32(decim.Degrees(g.Lat.N)), int32(decim.Degrees(g.Lon.N)), j.place.Alt}
	if g.Alt.Is {
		// A sentence tells tenths of a metre.
		p.Alt = int32(100 * g.Alt.N)
	}
	j.place = p
}

func (j *job) takeTlm(p api.Packet) {
	j.packets.Hear(p.Seq, p.Sys, p.Comp)
	if p.Msg.Id == msgSample {
		j.sample(p.Msg.V)
		return
	}
	j.asked(p)
}

// thousandths is n of them, with 16 bits behind the point.
func thousandths(n int64) int32 { return int32(fix.Over(n*65536, 1000)) }

func vector(v []int64) api.Vec {
	return api.Vec{X: thousandths(v[0]), Y: thousandths(v[1]), Z: thousandths(v[2])}
}

// sample leads the filter: v is a time, three accelerations, three rates, and more.
func (j *job) sample(v []int64) {
	was := j.last
	accel, rates := v[1:4], v[4:7]
	j.last = sample{true, uint32(v[0]), [3]int64{rates[0], rates[1], rates[2]}}
	later := j.last.time - was.time
	if !was.was || later > late {
		j.skips++
		return
	}
	j.filter = fuse.Step(j.filter, vector(rates), vector(accel), thousandths(int64(later)))
	j.logged(j.log.Add(j.record()))
}

// record is what the log has of now.
func (j *job) record() api.Rec {
	f, p := j.filter, j.place
	return api.Rec{
		Time: j.last.time,
		V: [api.Fields]int32{
			f.Q.W, f.Q.X, f.Q.Y, f.Q.Z,
			f.Bias.X, f.Bias.Y, f.Bias.Z,
			p.Lat, p.Lon, p.Alt,
			int32(min(f.Steps, most31)), int32(min(f.Cuts, most31)),
		},
	}
}
