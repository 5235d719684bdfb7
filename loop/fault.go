package loop

import (
	"flarepath/api"
	"flarepath/port"
)

const (
	// mostFaults is how many faults a flight has at most.
	mostFaults = 16
	// mostBy is how far from what it says a source is put at most: the sum with it never runs over.
	mostBy = 1 << 40
)

// refusalOf tells why faults may not be, or nil.
func refusalOf(faults []api.Fault) error {
	if len(faults) > mostFaults {
		return api.ErrLimit
	}
	for _, fault := range faults {
		if err := refusalOfOne(fault); err != nil {
			return err
		}
	}
	return nil
}

// refusalOfOne tells why a fault may not be, or nil.
func refusalOfOne(fault api.Fault) error {
	switch fault.Kind {
	case api.FaultNone:
		return nil
	case api.FaultSilent, api.FaultStatus, api.FaultParity, api.FaultOff:
		// Each source can say 0: what is refused here is the source.
		_, err := put(fault.Signal, fault.Source, 0)
		return err
	case api.FaultLane:
		if fault.Source >= 0 && fault.Source < api.Lanes {
			return nil
		}
	}
	return api.ErrArg
}

// hasCome tells whether a fault is there in a frame.
func hasCome(fault api.Fault, frame int) bool {
	return int64(fault.At) <= int64(frame)
}

// spoil does to a frame's input what a fault does. What the sources say comes with it: FaultOff goes by that, whatever the faults ahead of it made of the word.
func spoil(x *api.Input, fault api.Fault, says values) error {
	var err error
	switch i, k := fault.Signal, fault.Source; fault.Kind {
	case api.FaultSilent:
		x.Words[i][k] = 0
	case api.FaultStatus:
		x.Words[i][k] = port.Failed(x.Words[i][k])
	case api.FaultParity:
		x.Words[i][k] = port.Broken(x.Words[i][k])
	case api.FaultOff:
		x.Words[i][k], err = putNearest(i, k, says[i][k]+by(fault))
	case api.FaultLane:
		x.Dead[k] = true
	}
	return err
}

// by tells how much more than it does a source is to say.
func by(fault api.Fault) int64 {
	return max(-mostBy, min(fault.By, mostBy))
}
