package cluster

import "pupil/api"

// Lay puts a part into the mail, for tests: such as no worker sends.
func (c *Cluster) Lay(m api.Mail) {
	c.add(answer{from: m.From, step: m.Step, rows: m.Rows, part: m.Part, where: m.Where, err: m.Err})
}
