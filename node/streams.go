package node

import (
	"landfall/api"
	"landfall/fuse"
)

// The streams, by the ids of their timers.
const (
	heartbeat = iota
	attitude
	state
	position
	streams
)

// The messages that they send.
const (
	msgHeartbeat = 0
	msgAttitude  = 200
	msgState     = 201
	msgPosition  = 33
)

const (
	most32    = 1<<32 - 1
	most16    = 1<<16 - 1
	noHeading = 65535
)

// stream sends the message of a stream that was due at a time.
func (j *job) stream(id int, at int64) {
	all := [streams]func(at int64){heartbeat: j.alive, attitude: j.turned, state: j.filtered, position: j.placed}
	if id >= 0 && id < streams {
		all[id](at)
	}
}

func (j *job) alive(int64) {
	good := 0
	for _, n := range j.decoder.Counts().Good {
		good += n
	}
	j.say(msgHeartbeat, 6, 8, 0, int64(min(good, most32)), 4, 3)
}

func (j *job) turned(at int64) {
	r := j.last.rates
	j.say(msgAttitude, at, int64(fuse.Word(j.filter)), r[0], r[1], r[2])
}

func (j *job) filtered(at int64) {
	f := j.filter
	j.say(msgState, at, int64(f.Bias.X), int64(f.Bias.Y), int64(f.Bias.Z), int64(min(f.Steps, most32)), int64(min(f.Cuts, most16)))
}

func (j *job) placed(at int64) {
	p := j.place
	if p.Is {
		j.say(msgPosition, at, int64(p.Lat), int64(p.Lon), int64(p.Alt), 0, 0, 0, 0, noHeading)
	}
}

// request does what is asked of a stream, and tells whether it was done.
func (j *job) request(id, rate, start int64) bool {
	if id >= streams {
		return false
	}
	switch start {
	case 0:
		j.timers.Unset(int(id))
		return true
	case 1:
		if rate < 1 || rate > 50 {
			return false
		}
		every := int(1000 / rate)
		return j.timers.Set(int(id), j.now+every, every)
	}
	return false
}

// own is whether a number of a system, or a part of it, is this node's, or is meant for all.
func own(n int64, mine int) bool { return n == 0 || n == int64(mine) }

// asked answers a packet that asks for something.
func (j *job) asked(p api.Packet) {
	v := p.Msg.V
	switch p.Msg.Id {
	case msgPing:
		if v[2] == 0 && v[3] == 0 {
			j.say(msgPing, v[0], v[1], int64(p.Sys), int64(p.Comp))
		}
	case msgRequest:
		if !own(v[0], j.sys) || !own(v[1], j.comp) {
			return
		}
		result := int64(failed)
		if j.request(v[2], v[3], v[4]) {
			result = done
		}
		j.say(msgAnswer, msgRequest, result)
	}
}
