package bench

import "wattle/api"

const noLimit = -1

// counter counts the writes that are done, and takes the power away at the first one past its limit.
type counter struct {
	done int
	left int // how many more are done while there is power, or noLimit
	down bool
}

// Limit lets as many more writes be done; at the next one the power goes. Below 0 there is no limit; without power
// nothing changes.
func (c *counter) Limit(writes int) {
	if !c.down {
		c.left = max(writes, noLimit)
	}
}

// Writes is how many writes were done, from the beginning on.
func (c *counter) Writes() int {
	return c.done
}

// Down tells whether there is no power.
func (c *counter) Down() bool {
	return c.down
}

// spent tells whether the power goes at the next write.
func (c *counter) spent() bool {
	return c.left == 0
}

// count counts a write; where none is left the power goes instead.
func (c *counter) count() api.Errno {
	if c.spent() {
		c.down = true
		return api.ErrDown
	}
	if c.left != noLimit {
		c.left--
	}
	c.done++
	return api.OK
}

// restore gives the power back, without a limit.
func (c *counter) restore() {
	c.left, c.down = noLimit, false
}
