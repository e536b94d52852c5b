package appoint

import (
	"bartizan/api"
	"bartizan/wire"
)

// maxChannel is the greatest number of a channel; package api has no name for it.
const maxChannel = 1 << 20

// Job is a state to be watched: of which channel, its number, the hint, and the blob.
type Job struct {
	Channel int
	State   int
	Hint    api.Sum
	Blob    []byte
}

// Make is the job of a commitment, and the transaction that is to come.
func Make(channel, state int, commit api.Sum, j api.Tx) (Job, api.Errno) {
	if !upto(channel, maxChannel) || !upto(state, api.MaxState) {
		return Job{}, api.ErrArg
	}
	blob, e := Cover(commit, j)
	if e != api.OK {
		return Job{}, e
	}
	return Job{Channel: channel, State: state, Hint: Hint(commit), Blob: blob}, api.OK
}

// upto tells whether a number is 0 to another one.
func upto(n, most int) bool {
	return n >= 0 && n <= most
}

// Receipt is what a tower signs for a job.
func (j Job) Receipt(tower int) api.Receipt {
	return api.Receipt{Tower: tower, Channel: j.Channel, State: j.State, Hint: j.Hint, Blob: Mark(j.Blob)}
}

// Fits tells whether a receipt is just for this job, whichever tower's it is.
func (j Job) Fits(r api.Receipt) bool {
	return r == j.Receipt(r.Tower)
}

// Put are a job's bytes.
func (j Job) Put() []byte {
	var p wire.Pen
	return p.Nums(j.Channel, j.State).Sum(j.Hint).Text(j.Blob).Bytes()
}

// Get is the job that bytes are.
func Get(b []byte) (Job, api.Errno) {
	y := wire.Look(b)
	var j Job
	j.Channel = y.Upto(maxChannel)
	j.State = y.Upto(api.MaxState)
	j.Hint = y.Sum()
	j.Blob = y.Text(api.MaxData)
	if e := y.Done(); e != api.OK {
		return Job{}, e
	}
	return j, api.OK
}
