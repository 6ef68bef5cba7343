package plan

import (
	"metronome/api"
)

// A byte holds seven bits of a number; more in it says that the number goes on. None up to MaxTime needs more than six bytes.
const (
	bitsOfByte = 7
	more       = 1 << bitsOfByte
	mostBytes  = 6
)

// Encode writes a plan. Check's errors; ErrLimit: more than MaxPlan bytes.
func Encode(p api.Plan) (_ []byte, _ error) {
	if err := Check(p); err != nil {
		return nil, err
	}
	b := write(nil, p.Nodes, p.Faulty, p.Skew, p.Jitter, p.Drift, p.Round)
	b = write(b, len(p.Slots))
	for _, s := range p.Slots {
		b = write(b, s.Node, s.From, s.To)
	}
	b = write(b, len(p.Links))
	for _, l := range p.Links {
		b = write(b, l.From, l.To, l.Bag, l.Queue)
	}
	b = write(b, p.Frame, len(p.Windows))
	for _, w := range p.Windows {
		b = write(b, w.Part, w.From, w.To)
	}
	if len(b) > api.MaxPlan {
		return nil, api.ErrLimit
	}
	return b, nil
}

// write adds numbers, none of them below 0, to bytes.
func write(b []byte, numbers ...int) []byte {
	for _, n := range numbers {
		for n >= more {
			b = append(b, byte(n%more+more))
			n /= more
		}
		b = append(b, byte(n))
	}
	return b
}

// Decode reads what Encode writes, all of it. ErrForm: it isn't that; then Check's errors.
func Decode(b []byte) (_ api.Plan, _ error) {
	if len(b) > api.MaxPlan {
		return api.Plan{}, api.ErrForm
	}
	r := &reader{rest: b}
	p := r.plan()
	if r.spoilt || len(r.rest) > 0 {
		return api.Plan{}, api.ErrForm
	}
	if err := Check(p); err != nil {
		return api.Plan{}, err
	}
	return p, nil
}

// reader takes numbers off the front of bytes. Once what it meets is of another form it is spoilt, and gives noughts from there on.
type reader struct {
	rest   []byte
	spoilt bool
}

// spoil lets nothing more be read.
func (r *reader) spoil() {
	r.rest, r.spoilt = nil, true
}

// number takes one number.
func (r *reader) number() int {
	n := 0
	for i, b := range r.rest[:min(len(r.rest), mostBytes)] {
		n += int(b%more) << (bitsOfByte * i)
		if b >= more {
			continue
		}
		// A nought at the end adds nothing: the number needs no such byte.
		if n > api.MaxTime || b == 0 && i > 0 {
			break
		}
		r.rest = r.rest[i+1:]
		return n
	}
	r.spoil()
	return 0
}

// rows takes how many rows there are, at most so many, and then row by row.
func rows[T any](r *reader, most int, row func() T) []T {
	n := r.number()
	if n > most {
		r.spoil()
		return nil
	}
	list := make([]T, n)
	for i := range list {
		list[i] = row()
	}
	return list
}

// plan takes a whole plan, whether it may be or not.
func (r *reader) plan() api.Plan {
	var p api.Plan
	p.Nodes, p.Faulty = r.number(), r.number()
	p.Skew, p.Jitter, p.Drift = r.number(), r.number(), r.number()
	p.Round = r.number()
	p.Slots = rows(r, api.MaxSlots, func() (s api.Slot) {
		s.Node, s.From, s.To = r.number(), r.number(), r.number()
		return s
	})
	p.Links = rows(r, api.MaxLinks, func() (l api.Link) {
		l.From, l.To = r.number(), r.number()
		l.Bag, l.Queue = r.number(), r.number()
		return l
	})
	p.Frame = r.number()
	p.Windows = rows(r, api.MaxSlots, func() (w api.Window) {
		w.Part, w.From, w.To = r.number(), r.number(), r.number()
		return w
	})
	return p
}
