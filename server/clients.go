package server

import (
	"strings"

	"mailsack/api"
	"mailsack/imap"
	"mailsack/lines"
	"mailsack/lmtp"
	"mailsack/vault"
)

const farewell = "221 bye"

// sender is a client of LMTP; pending is what it sent and what was not processed yet.
type sender struct {
	server  *Server
	state   lmtp.State
	pending string
}

// reader is a client of IMAP; answered is how many literals of the pending command it was told to send.
type reader struct {
	server   *Server
	state    imap.State
	pending  string
	answered int
}

func (c *sender) receive(bytes string) (string, bool) {
	c.pending += bytes
	var out strings.Builder
	for {
		line, rest, found := lines.Next(c.pending)
		if found == lines.More {
			return out.String(), true
		}
		c.pending = rest
		switch {
		case found == lines.TooLong:
			out.WriteString("500 long" + ending)
		case lmtp.Ended(c.state, line):
			c.deliver(&out)
		default:
			state, reply := lmtp.Line(c.state, line, c.server.Users())
			c.state = state
			if reply != "" {
				out.WriteString(reply + ending)
			}
			if reply == farewell {
				return out.String(), false
			}
		}
	}
}

// deliver delivers the text that was received to each recipient.
func (c *sender) deliver(out *strings.Builder) {
	for _, user := range c.state.To {
		reply := "552 long"
		if !c.state.Long {
			reply = c.server.deliver(user, c.state.Body)
		}
		out.WriteString(reply + ending)
	}
	c.state = lmtp.Done(c.state)
}

// deliver delivers a text to a user and returns the reply.
func (s *Server) deliver(user string, text string) string {
	d, _, errno := vault.Deliver(s.disk, user, s.draw().Once, text)
	if errno != api.OK {
		return "452 full"
	}
	s.disk = d
	return "250 ok"
}

func (c *reader) receive(bytes string) (string, bool) {
	c.pending += bytes
	var out strings.Builder
	for {
		command, rest, found, announced := lines.Take(c.pending)
		for c.answered < announced {
			out.WriteString("+ " + ending)
			c.answered++
		}
		if found == lines.More {
			return out.String(), true
		}
		c.pending, c.answered = rest, 0
		if found == lines.TooLong {
			out.WriteString("* BAD" + ending)
			continue
		}
		out.WriteString(c.perform(command))
		if c.state.Gone {
			return out.String(), false
		}
	}
}

// perform performs a command and returns the reply.
func (c *reader) perform(command lines.Command) string {
	s := c.server
	d, state, reply := imap.Do(s.disk, c.state, command, s.draw())
	s.disk, c.state = d, state
	return reply
}
