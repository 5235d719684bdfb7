package script

import (
	"strconv"

	"flarepath/api"
	"flarepath/lanes"
	"flarepath/link"
	"flarepath/loop"
	"flarepath/mode"
	"flarepath/warn"
)

// signed is how a row writes a number that may be below 0; each other one (N) may not.
const signed = 'Z'

const (
	// mostFrames is how many frames one line does at most.
	mostFrames = 5000
	// fourBits are those that the crew, and the units, have.
	fourBits = 15
	// mostKind is the greatest kind of a fault that a byte holds: it is none of those that there are.
	mostKind = 255
)

// done is the answer of a line that tells nothing else.
const done = "ok"

// row is what the first word of a line stands for: which numbers stand behind it, and what it does.
type row struct {
	numbers string
	do      func(s *session, numbers []int64) (string, api.Errno)
}

// rows tells the rows by their words.
func rows() map[string]row {
	return map[string]row{
		"fault": {"NNNNZ", (*session).fault},
		"fly":   {"ZZZZ", (*session).fly},
		"crew":  {"N", (*session).does},
		"units": {"N", (*session).well},
		"gust":  {"ZZZZ", (*session).gust},
		"wrong": {"NNZ", (*session).wrong},
		"go":    {"N", (*session).frames},
		"where": {"", (*session).where},
		"cmd":   {"", (*session).cmd},
		"lane":  {"N", (*session).lane},
	}
}

// session is what the lines of a script have come to: the faults of the flights that are to be, the air, the crew, the units, the flight (nil: there is none), and what came of its last frame.
type session struct {
	faults []api.Fault
	air    api.Gust
	crew   uint8
	units  uint8
	flight *loop.Flight
	last   api.Output
}

// begin tells what a script begins with: all units are well.
func begin() *session {
	return &session{units: fourBits}
}

// fault keeps a fault for the flights that are to be. Whether it may be is asked when one of them begins.
func (s *session) fault(n []int64) (string, api.Errno) {
	s.faults = append(s.faults, api.Fault{
		Kind:   uint8(min(n[0], mostKind)),
		At:     uint32(n[1]),
		Signal: int(n[2]),
		Source: int(n[3]),
		By:     n[4],
	})
	return done, api.OK
}

// fly lets the flight that was there go ahead of anything else, so that it is gone if the new one is refused, too.
func (s *session) fly(n []int64) (string, api.Errno) {
	s.flight, s.last = nil, api.Output{}
	flight, errno := loop.New(api.Plane{X: n[0], Y: n[1], H: n[2], Turn: n[3]}, s.faults)
	if errno != api.OK {
		return "", errno
	}
	s.flight = flight
	return done, api.OK
}

// does keeps what the crew does for the next frame.
func (s *session) does(n []int64) (string, api.Errno) {
	s.crew = uint8(n[0] & fourBits)
	return done, api.OK
}

// well keeps which units are well.
func (s *session) well(n []int64) (string, api.Errno) {
	s.units = uint8(n[0] & fourBits)
	return done, api.OK
}

// gust keeps what the air does; what is wrong of the sources stays.
func (s *session) gust(n []int64) (string, api.Errno) {
	s.air.Along, s.air.Side, s.air.Up, s.air.Turn = n[0], n[1], n[2], n[3]
	return done, api.OK
}

// wrong keeps what is wrong of one source.
func (s *session) wrong(n []int64) (string, api.Errno) {
	if n[0] >= api.Signals || n[1] >= api.Sources {
		return "", api.ErrArg
	}
	s.air.Wrong[n[0]][n[1]] = n[2]
	return done, api.OK
}

// frames does so many frames, and tells what lane 0 showed last.
func (s *session) frames(n []int64) (string, api.Errno) {
	if errno := s.refusal(n[0]); errno != api.OK {
		return "", errno
	}
	for range n[0] {
		out, errno := s.flight.Frame(s.air, s.crew, s.units)
		if errno != api.OK {
			return "", errno
		}
		s.last, s.crew = out, 0
	}
	return shown(s.last.Show[0]), api.OK
}

// refusal tells why so many frames may not be done, or OK: first what the row itself names. A flight that has no room for all of them does none.
func (s *session) refusal(frames int64) api.Errno {
	switch {
	case frames > mostFrames:
		return api.ErrLimit
	case s.flight == nil:
		return api.ErrState
	case !hasRoom(s.flight.Frames(), frames):
		return api.ErrLimit
	}
	return api.OK
}

// hasRoom tells whether a flight of which some frames are done may go on by so many.
func hasRoom(did int, frames int64) bool {
	return frames <= int64(api.MaxFrames-did)
}

// where tells where the aeroplane is.
func (s *session) where([]int64) (string, api.Errno) {
	if s.flight == nil {
		return "", api.ErrState
	}
	p := s.flight.Plane()
	at := tens(p.X, p.Y, p.H, p.Turn)
	if p.Down {
		return at + " down " + tens(p.Sank), api.OK
	}
	return at + " up", api.OK
}

// cmd tells what went to the surfaces last.
func (s *session) cmd([]int64) (string, api.Errno) {
	if s.flight == nil {
		return "", api.ErrState
	}
	if !s.last.Is {
		return "none", api.OK
	}
	return tens(s.last.Cmd.Side, s.last.Cmd.Sink, s.last.Cmd.Turn), api.OK
}

// lane tells of one lane. A number that no lane has comes first: the row itself names that error.
func (s *session) lane(n []int64) (string, api.Errno) {
	if n[0] >= api.Lanes {
		return "", api.ErrArg
	}
	if s.flight == nil {
		return "", api.ErrState
	}
	l, _ := s.flight.Lane(int(n[0])) // There is such a lane.
	alive := lanes.Many(link.Alive(l.Links))
	return modeAndLevel(l.State.Mode, l.Cap.Level) + " " + tens(int64(alive)), api.OK
}

// shown tells what a lane shows.
func shown(show api.Show) string {
	toga := "-"
	if show.Toga {
		toga = "toga"
	}
	text, _ := warn.Text(show.Warn) // A lane shows none but warnings that there are.
	return modeAndLevel(show.Mode, show.Level) + " " + toga + " " + text
}

// modeAndLevel tells what a lane's texts begin with.
func modeAndLevel(now, level uint8) string {
	return mode.Names()[now] + " " + tens(int64(level))
}

// tens tells numbers in tens, with a blank between them.
func tens(l ...int64) string {
	var b []byte
	for i, n := range l {
		if i > 0 {
			b = append(b, ' ')
		}
		b = strconv.AppendInt(b, n, 10)
	}
	return string(b)
}
