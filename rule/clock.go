package rule

import (
	"horologe/api"
	"horologe/scan"
)

const (
	hour      = 3600
	minute    = 60
	sixtieth  = 59             // the last minute of an hour, and the last second of a minute
	usualTime = 2 * hour       // a rule's time that its text doesn't tell
	farTime   = 7*24*hour - 1  // the greatest time of a rule; -farTime is the least
	mostHours = farTime / hour // of a rule's time
	farHours  = 999            // the most hours of any clock time
)

// clock is a clock time by its parts, as they are told in a text.
type clock struct {
	negative                bool
	hours, minutes, seconds int
}

// PutClock is the text of seconds.
func PutClock(seconds, most int) (string, error) {
	if !within(most, 0, farHours) {
		return "", api.ErrRange
	}
	end := hour * (most + 1)
	if !within(seconds, 1-end, end-1) {
		return "", api.ErrRange
	}
	return clockOf(seconds).text(), nil
}

// ParseClock is the seconds of a text.
func ParseClock(s string, most int) (int, error) {
	if !within(most, 0, farHours) {
		return 0, api.ErrRange
	}
	t := scan.New(s)
	c := takeClock(t)
	if err := t.End(); err != nil {
		return 0, err
	}
	if !c.fits(most) {
		return 0, api.ErrRange
	}
	return c.total(), nil
}

// clockOf is a clock time of so many seconds, of which there aren't too many to be negated.
func clockOf(seconds int) clock {
	negative := seconds < 0
	if negative {
		seconds = -seconds
	}
	return clock{negative, seconds / hour, seconds % hour / minute, seconds % minute}
}

// text is the shortest one.
func (c clock) text() string {
	s := digits(c.hours, 1)
	if c.negative {
		s = "-" + s
	}
	if c.minutes != 0 || c.seconds != 0 {
		s += ":" + digits(c.minutes, 2)
	}
	if c.seconds != 0 {
		s += ":" + digits(c.seconds, 2)
	}
	return s
}

// takeClock takes a clock time, whose parts may be too great.
func takeClock(t *scan.Scanner[string]) clock {
	c := clock{negative: t.Take('-')}
	if !c.negative {
		t.Take('+')
	}
	c.hours = int(t.Figures(1, 3))
	if !t.Take(':') {
		return c
	}
	c.minutes = int(t.Figures(2, 2))
	if t.Take(':') {
		c.seconds = int(t.Figures(2, 2))
	}
	return c
}

// fits tells whether no part is too great, if there are at most so many hours.
func (c clock) fits(most int) bool {
	return c.hours <= most && c.minutes <= sixtieth && c.seconds <= sixtieth
}

// total is all its seconds.
func (c clock) total() int {
	seconds := hour*c.hours + minute*c.minutes + c.seconds
	if c.negative {
		return -seconds
	}
	return seconds
}
