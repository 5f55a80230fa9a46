package conn

import "packetboat/api"

// clock tells how long an answer is waited for.
type clock struct {
	runs  bool
	began int // the time at which it began, if it runs
	gone  int // how often it went off since something was acknowledged
}

// Tick lets n ticks go by: ErrArg, if n is below 0, or the time would be above
// 2^40.
func (c *Conn) Tick(n int) api.Errno {
	if n < 0 || n > api.MaxTime-c.time {
		return api.ErrArg
	}
	c.time += n
	switch {
	case c.state == api.TimeWait:
		if c.time >= c.waits {
			c.end(api.OK)
		}
	case c.clock.runs && c.time-c.clock.began >= c.timer.Value():
		c.goOff()
	}
	c.lookAtClock()
	return api.OK
}

// goOff takes in that no answer came in time.
func (c *Conn) goOff() {
	if c.clock.gone == api.MaxTries {
		c.end(api.ErrTimeout)
		return
	}
	c.clock.gone++
	c.timer.Late()
	c.clock.began = c.time
	if flight := c.flight(); flight > 0 {
		c.window.Silent(flight)
		c.out.Back()
		c.measured = measured{}
	} else {
		c.asked.probe = true
	}
}

// lookAtClock is called at the end of each call by which something for which
// the clock runs may have come or gone.
func (c *Conn) lookAtClock() {
	runs := c.isWaiting()
	if runs && !c.clock.runs {
		c.clock.began = c.time
	}
	c.clock.runs = runs
}

// isWaiting tells whether an answer is waited for: to what is on its way, or a
// window for what can't go out without one.
func (c *Conn) isWaiting() bool {
	if c.state == api.Closed || c.state == api.TimeWait {
		return false
	}
	return c.flight() > 0 || c.wnd == 0 && c.out.Una() > 0 && c.out.Cur() < c.out.End()
}

// flight is how many places went out, and are not acknowledged.
func (c *Conn) flight() int {
	return c.out.Cur() - c.out.Una()
}

// wait lets the connection be TimeWait for some time from now on.
func (c *Conn) wait() {
	c.state, c.waits = api.TimeWait, c.time+api.WaitTime
}
