package posix

import (
	"horologe/api"
	"horologe/rule"
	"horologe/scan"
)

const clockBytes = digits + signs + ":"

// reader reads a plan's text, up to its first error.
type reader struct {
	*scan.Scanner[string]
}

// Parse is a text's plan.
func Parse(s string) (Plan, error) {
	r := reader{scan.New(s)}
	p := r.plan()
	if err := r.End(); err != nil {
		return Plan{}, err
	}
	if err := Check(p); err != nil { // since an offset that isn't told may be out of range
		return Plan{}, err
	}
	return p, nil
}

// plan takes a plan.
func (r reader) plan() Plan {
	var p Plan
	p.Name = r.name()
	p.Offset = r.offset()
	if r.Left() == 0 {
		return p
	}
	p.Summer = r.name()
	p.Ahead = r.ahead(p.Offset)
	p.Begin = r.change()
	p.End = r.change()
	return p
}

// name takes a name, between brackets or not.
func (r reader) name() string {
	s := ""
	if r.Take('<') {
		s = r.Until('>')
		r.Must(">")
	} else {
		s = r.Run(letters)
	}
	if !Name(s) {
		r.Fail(api.ErrForm)
	}
	return s
}

// offset takes an offset, whose sign is the opposite one.
func (r reader) offset() int {
	seconds, err := rule.ParseClock(r.Run(clockBytes), mostHours)
	if err != nil {
		r.Fail(err)
	}
	return -seconds
}

// ahead takes the offset of the other time, which isn't told where it is the usual one.
func (r reader) ahead(offset int) int {
	if b, there := r.Peek(); there && b == ',' {
		return usual(offset)
	}
	return r.offset()
}

// change takes a comma and a rule.
func (r reader) change() rule.Rule {
	r.Must(",")
	x, err := rule.Parse(r.Until(','))
	if err != nil {
		r.Fail(err)
	}
	return x
}
